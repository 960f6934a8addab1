/- Texts of PartOne, one behind the other: PartFirst, PartFirstWalk, RegionSteps. -/
import Derived.Deep.RegionHeld3
import Derived.Test.YtnplhejopmoopaaDoorProg
import Derived.WalkKit
import Derived.WalkLawsBesides
import Derived.Deep.CutRange
import Derived.Deep.MidRow
import Derived.Test.YtnplhejopmoopaaDoorPartOneP21
/- part.First: from the peaks down. -/
namespace Go.Proofs.YtnplhejopmoopaaDoor
open Go.RowKit
set_option maxRecDepth 100000

/-- how it stands in First: w0 is the world at its start. -/
structure PFS (s : SRCD) (vt : TypeId) (w0 : World) (ZP : Array Value) (LA LB : List Nat) (q : Nat) (w : World) : Prop where
  st : s.P LA LB w
  size : w0.heap.size + 4 ≤ w.heap.size
  c2 : Has w w0.heap.size #[.iface vt (.pointer (some ⟨s.ga, 0, none⟩))] 63
  c3 : Has w (w0.heap.size + 1) #[.iface vt (.pointer (some ⟨s.gb, 0, none⟩))] 63
  cp : Has w (w0.heap.size + 2) ZP 29
  c1 : Has w (w0.heap.size + 3) #[.int .i64 (q : Int)] 3
  foot : ∀ k, s.FT w k → s.FT w0 k ∨ w0.heap.size + 4 ≤ k
/-- a row of places lies there. -/
structure PROW (s : SRCD) (w0 w : World) (rb : Nat) (row : List (Nat × Nat)) : Prop where
  cells : ∀ j h k, row[j]? = some (h, k) → w.cell? ⟨rb, j, none⟩ = some (.int .u64 ((PLC h k : Nat) : Int))
  lt : rb < w.heap.size
  not : ¬ s.FT w rb
  ge : w0.heap.size + 4 ≤ rb
theorem PFS.not {s : SRCD} {vt : TypeId} {w0 w : World} {ZP : Array Value} {LA LB : List Nat} {q : Nat} (h : PFS s vt w0 ZP LA LB q w) (hl : ∀ k, s.FT w0 k → k < w0.heap.size) (i : Nat) (hi : i < 4) : ¬ s.FT w (w0.heap.size + i) := fun e => by
  rcases h.foot _ e with h1 | h1
  · have := hl _ h1
    omega
  · omega
theorem OFF.below {FT : World → Nat → Prop} {w w' : World} (hlt : ∀ k, FT w k → k < w.heap.size) (hb : Below w.heap.size w w') : OFF FT w w' := ⟨hb.os, hb.tape, hb.output, hb.size, fun k hk => hb.block k (hlt k hk)⟩
theorem PFS.below {s : SRCD} (src : PSRC s) {vt : TypeId} {w0 w w' : World} {ZP : Array Value} {LA LB : List Nat} {q : Nat} (h : PFS s vt w0 ZP LA LB q w) (hb : Below w.heap.size w w') : PFS s vt w0 ZP LA LB q w' := by
  obtain ⟨p1, q1⟩ := src.off _ _ _ _ h.st (OFF.below (fun k hk => src.lt _ _ _ _ h.st hk) hb)
  exact ⟨p1, Nat.le_trans h.size hb.size, h.c2.keep hb, h.c3.keep hb, h.cp.keep hb, h.c1.keep hb, fun k hk => h.foot k (q1 k hk)⟩
theorem PROW.below {s : SRCD} (src : PSRC s) {w0 w w' : World} {rb : Nat} {row : List (Nat × Nat)} {LA LB : List Nat} (h : PROW s w0 w rb row) (hP : s.P LA LB w) (hb : Below w.heap.size w w') : PROW s w0 w' rb row := by
  obtain ⟨p1, q1⟩ := src.off _ _ _ _ hP (OFF.below (fun k hk => src.lt _ _ _ _ hP hk) hb)
  exact ⟨fun j x k e => (hb.cell (p := ⟨rb, j, none⟩) h.lt).trans (h.cells j x k e), Nat.lt_of_lt_of_le h.lt hb.size, fun e => h.not (q1 _ e), h.ge⟩
/-- behind the answer of the closure. -/
theorem PFS.asked {s : SRCD} {vt : TypeId} {w0 w w' : World} {ZP : Array Value} {LA LB LA' LB' : List Nat} {q : Nat} (h : PFS s vt w0 ZP LA LB q w) (hl : ∀ k, s.FT w0 k → k < w0.heap.size)
    (hP : s.P LA' LB' w') (h1 : Has w' (w0.heap.size + 3) #[.int .i64 ((q + 1 : Nat) : Int)] 3) (hz : w.heap.size ≤ w'.heap.size) (hk : ∀ k, k < w.heap.size → ¬ s.FT w k → k ≠ w0.heap.size + 3 → w'.heap[k]? = w.heap[k]?) (hf : ∀ k, s.FT w' k → s.FT w k ∨ w.heap.size ≤ k) : PFS s vt w0 ZP LA' LB' (q + 1) w' := by
  have hs := h.size
  have n0 := h.not hl 0 (by omega)
  have n1 := h.not hl 1 (by omega)
  have n2 := h.not hl 2 (by omega)
  refine ⟨hP, by omega, (hk _ (by omega) n0 (by omega)).trans h.c2, (hk _ (by omega) n1 (by omega)).trans h.c3, (hk _ (by omega) n2 (by omega)).trans h.cp, h1, fun k e => ?_⟩
  rcases hf k e with e1 | e1
  · exact h.foot k e1
  · exact .inr (by omega)
theorem PROW.asked {s : SRCD} {w0 w w' : World} {rb : Nat} {row : List (Nat × Nat)} (h : PROW s w0 w rb row) (hz : w.heap.size ≤ w'.heap.size) (hk : ∀ k, k < w.heap.size → ¬ s.FT w k → k ≠ w0.heap.size + 3 → w'.heap[k]? = w.heap[k]?) (hf : ∀ k, s.FT w' k → s.FT w k ∨ w.heap.size ≤ k) : PROW s w0 w' rb row := by
  have hge := h.ge
  have hlt := h.lt
  have hb := hk rb h.lt h.not (by omega)
  refine ⟨fun j x k e => ?_, by omega, fun e => ?_, h.ge⟩
  · rw [← h.cells j x k e]
    simp only [World.cell?, hb]
  · rcases hf _ e with e1 | e1
    · exact h.not e1
    · omega
theorem PFS.lob {s : SRCD} (src : PSRC s) {vt : TypeId} {w0 w : World} {ZP : Array Value} {LA LB : List Nat} {q : Nat} (h : PFS s vt w0 ZP LA LB q w) (hl : ∀ k, s.FT w0 k → k < w0.heap.size) : LOB s w (w0.heap.size + 3) w0.heap.size (w0.heap.size + 1) := by
  have hs := h.size
  exact ⟨h.not hl 3 (by omega), h.not hl 0 (by omega), h.not hl 1 (by omega), by omega, by omega, by omega, by omega, by omega, fun k hk => src.lt _ _ _ _ h.st hk⟩
/-- what First answers. -/
def PANS (s : SRCD) (o : POUT × List Nat × List Nat) (e : Ending) (w : World) : Prop :=
  s.P o.2.1 o.2.2 w ∧ ((∃ E, o.1 = .err E ∧ e = .returned (.tuple #[.agg (PTG 0 (fun _ => 0) (fun _ => 0) 0), .int .i64 E])) ∨ (∃ k, o.1 = .leaf k ∧ e = .returned (.tuple #[.agg (PTG k (s.A (PLC 0 k)) (s.B (PLC 0 k)) o.2.1.length), .int .i64 0])))
/-- whether the two tell the same. -/
def SAME (s : SRCD) (p : Nat) : Bool := (List.range 32).all fun i => s.A p i == s.B p i
/-- the rest of a row, and what is to be answered. -/
structure PREST (s : SRCD) (VV : Nat → Nat → Prop) (n f : Nat) (row : List (Nat × Nat)) (no : Int) (r : List (Nat × Nat)) (L : List Nat) : Prop where
  out : PFST s.EA s.EB (SAME s) n = PSC s.EA s.EB (SAME s) (PGO s.EA s.EB (SAME s) f) no r L
  low : ∀ x ∈ row, x.1 ≤ f ∧ VV x.1 x.2
theorem PSC_long {EA EB : Nat → Int} {S : Nat → Bool} {down : Nat × Nat → List Nat → POUT × List Nat × List Nat} {no : Int} (hd : ∀ s L, L.length ≤ (down s L).2.1.length) : ∀ (r : List (Nat × Nat)) (L : List Nat), L.length ≤ (PSC EA EB S down no r L).2.1.length
  | [], L => Nat.le_refl _
  | s :: r, L => by
    have hl : (L ++ [PLC s.1 s.2]).length = L.length + 1 := by simp
    by_cases ha : EA (PLC s.1 s.2) = 0
    · by_cases hb : EB (PLC s.1 s.2) = 0
      · cases hS : S (PLC s.1 s.2) with
        | true =>
          rw [PSC_same ha hb hS]
          have := PSC_long (EA := EA) (EB := EB) (S := S) (no := no) hd r (L ++ [PLC s.1 s.2])
          omega
        | false =>
          rw [PSC_down ha hb hS]
          have := hd s (L ++ [PLC s.1 s.2])
          omega
      · rw [PSC_err_b ha hb]
        show L.length ≤ (L ++ [PLC s.1 s.2]).length
        omega
    · rw [PSC_err_a ha]
      show L.length ≤ (L ++ [PLC s.1 s.2]).length
      omega
theorem PGO_long {EA EB : Nat → Int} {S : Nat → Bool} : ∀ (f : Nat) (s : Nat × Nat) (L : List Nat), L.length ≤ (PGO EA EB S f s L).2.1.length
  | 0, s, L => Nat.le_refl _
  | f + 1, s, L => by
    by_cases h : s.1 = 0
    · rw [PGO_leaf h]
      exact Nat.le_refl _
    · rw [PGO_kids h]
      exact PSC_long (PGO_long f) _ _
theorem PREST.few {s : SRCD} {VV : Nat → Nat → Prop} {n f : Nat} {row r : List (Nat × Nat)} {no : Int} {L : List Nat} (h : PREST s VV n f row no r L) (hn : n ≤ 4611686018427387904) : L.length ≤ 125 := by
  have h1 := PSC_long (EA := s.EA) (EB := s.EB) (S := SAME s) (no := no) (down := PGO s.EA s.EB (SAME s) f) (PGO_long f) r L
  rw [← h.out] at h1
  have h2 := PFST_few (EA := s.EA) (EB := s.EB) (S := SAME s) (H := 62) hn (by omega)
  omega
theorem PFS.ends {s : SRCD} (src : PSRC s) {vt : TypeId} {w0 w : World} {ZP : Array Value} {LA LB : List Nat} {q : Nat} (h : PFS s vt w0 ZP LA LB q w) (hl : ∀ k, s.FT w0 k → k < w0.heap.size) (D : Array Value) : s.P LA LB (w.setRow (w0.heap.size + 1 + 1) D) ∧ Has (w.setRow (w0.heap.size + 1 + 1) D) (w0.heap.size + 1 + 1) D 29 :=
  ⟨(src.off _ _ _ _ h.st (OFF.row (h.not hl 2 (by omega)) D)).1, h.cp.row D⟩
theorem PREST.next {s : SRCD} {VV : Nat → Nat → Prop} {n f : Nat} {row r : List (Nat × Nat)} {no : Int} {L : List Nat} {x : Nat × Nat} (h : PREST s VV n f row no (x :: r) L) (ha : s.EA (PLC x.1 x.2) = 0) (hb : s.EB (PLC x.1 x.2) = 0) (hS : SAME s (PLC x.1 x.2) = true) : PREST s VV n f row no r (L ++ [PLC x.1 x.2]) := ⟨by rw [h.out, PSC_same ha hb hS], h.low⟩
theorem drop_at {l : List (Nat × Nat)} {j h k : Nat} (e : l[j]? = some (h, k)) : l.drop j = (h, k) :: l.drop (j + 1) := by
  obtain ⟨hi, e2⟩ := List.getElem?_eq_some_iff.1 e
  rw [← e2, List.getElem_cons_drop]
/-- two hashes are laid down. -/
theorem two_put (w : World) (X Y : Nat → Nat) : ∃ W W1 W2 : World, (w.alloc (.cells (HX.UARR .u8 32 fun _ => 0) 27)).alloc (.cells (HX.UARR .u8 32 fun _ => 0) 27) = W ∧ (storeCells ⟨w.heap.size, 0, none⟩ (HX.UARR .u8 32 X).toList 0).run Tryd.prog W = .ok () W1 ∧ (storeCells ⟨w.heap.size + 1, 0, none⟩ (HX.UARR .u8 32 Y).toList 0).run Tryd.prog W1 = .ok () W2 ∧ HX.Has W2 w.heap.size (HX.UARR .u8 32 X) 27 ∧ HX.Has W2 (w.heap.size + 1) (HX.UARR .u8 32 Y) 27 ∧ Below w.heap.size w W2 := by
  have h1 : Has ((w.alloc (.cells (HX.UARR .u8 32 fun _ => 0) 27)).alloc (.cells (HX.UARR .u8 32 fun _ => 0) 27)) w.heap.size (HX.UARR .u8 32 fun _ => 0) 27 := (Has.new _ _ _).alloc _
  have h2 : Has ((w.alloc (.cells (HX.UARR .u8 32 fun _ => 0) 27)).alloc (.cells (HX.UARR .u8 32 fun _ => 0) 27)) (w.heap.size + 1) (HX.UARR .u8 32 fun _ => 0) 27 := Has.at _ _ _ (by simp)
  have hb : Below w.heap.size w ((w.alloc (.cells (HX.UARR .u8 32 fun _ => 0) 27)).alloc (.cells (HX.UARR .u8 32 fun _ => 0) 27)) := ((Below.refl _ _).alloc (Nat.le_refl _) _).alloc (by simp) _
  refine ⟨_, _, _, rfl, HX.store_cells32 h1 X, HX.store_cells32 (h2.row_other (by omega) _) Y, (h1.row _).row_other (by omega) _, (h2.row_other (by omega) _).row _, ?_⟩
  exact below_row (below_row hb (Nat.le_refl _) _) (by omega) _
theorem equal_same_all (s : SRCD) (p : Nat) (w : World) : (Op.equalIn 10000 27 (.agg (HX.UARR .u8 32 (s.A p))) (.agg (HX.UARR .u8 32 (s.B p)))).run Tryd.prog w = .ok (SAME s p) w := HX.equal_hash _ _ w
end Go.Proofs.YtnplhejopmoopaaDoor

/- The walk of part.First. -/
namespace Go.Proofs.YtnplhejopmoopaaDoor
open Go.RowKit
set_option maxRecDepth 100000

/-- what the closure's contract says. -/
def PASKS (s : SRCD) (vt : TypeId) : Prop := ∀ (w : World) (LA LB : List Nat) (p q : Nat), s.V p → q ≤ 1000 → LA.length ≤ 130 → LB.length ≤ 130 → s.P LA LB w → ∀ b1 b2 b3, LOB s w b1 b2 b3 → Has w b1 #[.int .i64 (q : Int)] 3 → Has w b2 #[.iface vt (.pointer (some ⟨s.ga, 0, none⟩))] 63 → Has w b3 #[.iface vt (.pointer (some ⟨s.gb, 0, none⟩))] 63 →
  Calls Tryd.prog 21 #[.int .u64 (p : Int), .pointer (some ⟨b1, 0, none⟩), .pointer (some ⟨b2, 0, none⟩), .pointer (some ⟨b3, 0, none⟩)] w (PASK s w b1 LA LB q p)
set_option maxHeartbeats 8000000 in
theorem first_ok (s : SRCD) (src : PSRC s) (vt : TypeId) (hask : PASKS s vt) (n : Nat) (hn : n ≤ 4611686018427387904) (VV : Nat → Nat → Prop) (hV : ∀ h k, VV h k → s.V (PLC h k) ∧ Node h k) (hK : ∀ h k, VV (h + 1) k → VV h (2 * k) ∧ VV h (2 * k + 1)) (hPk : ∀ x ∈ SPAN 0 n, VV x.1 x.2)
    (w : World) (hP : s.P [] [] w) (hl : ∀ k, s.FT w k → k < w.heap.size) (hT : Tabled w) (h0 : 0 < w.heap.size) :
    Calls Tryd.prog 7 #[.iface vt (.pointer (some ⟨s.ga, 0, none⟩)), .iface vt (.pointer (some ⟨s.gb, 0, none⟩)), .int .u64 (n : Int)] w (PANS s (PFST s.EA s.EB (SAME s) n)) := by
  obtain ⟨ZP, eZ, hzp, hbp, hZ66, hZ1⟩ := zero_part
  have hn' : ¬ (4611686018427387904 : Int) < (n : Int) := by omega
  have hz := HX.zeroHash
  obtain ⟨W4, hW4⟩ : ∃ W4, (((w.alloc (.cells #[.iface vt (.pointer (some ⟨s.ga, 0, none⟩))] 63)).alloc (.cells #[.iface vt (.pointer (some ⟨s.gb, 0, none⟩))] 63)).alloc (.cells ZP 29)).alloc (.cells #[.int .i64 0] 3) = W4 := ⟨_, rfl⟩
  have hb4 : Below w.heap.size w W4 := by
    rw [← hW4]
    exact ((((Below.refl _ _).alloc (Nat.le_refl _) _).alloc (by simp) _).alloc (by simp; omega) _).alloc (by simp; omega) _
  have hs4 : W4.heap.size = w.heap.size + 4 := by rw [← hW4]; simp
  have F4 : PFS s vt w ZP [] [] 0 W4 := by
    obtain ⟨p1, q1⟩ := src.off _ _ _ _ hP (OFF.below hl hb4)
    refine ⟨p1, by omega, ?_, ?_, ?_, ?_, fun k hk => .inl (q1 k hk)⟩
    · rw [← hW4]; exact (((Has.new _ _ _).alloc _).alloc _).alloc _
    · rw [← hW4]; exact ((Has.at _ _ _ (by simp)).alloc _).alloc _
    · rw [← hW4]; exact (Has.at _ _ _ (by simp)).alloc _
    · rw [← hW4]; exact Has.at _ _ _ (by simp)
  have x4 : W4.cell? ⟨w.heap.size + 1 + 1 + 1, 0, none⟩ = some (.int .i64 0) := F4.c1.cell 0
  have z4 : W4.frozen? ⟨w.heap.size + 1 + 1 + 1, 0, none⟩ = false := F4.c1.frozen 0
  obtain ⟨W5, hW5⟩ : ∃ W5, W4.setCell ⟨w.heap.size + 1 + 1 + 1, 0, none⟩ (.int .i64 0) = W5 := ⟨_, rfl⟩
  have hs5 : W5.heap.size = w.heap.size + 4 := by rw [← hW5]; simp [World.setCell, hs4]
  have hb5 : Below w.heap.size w W5 := by rw [← hW5]; exact hb4.setCell (p := ⟨w.heap.size + 1 + 1 + 1, 0, none⟩) (by show w.heap.size ≤ w.heap.size + 1 + 1 + 1; omega) _
  have F5 : PFS s vt w ZP [] [] 0 W5 := by
    obtain ⟨p1, q1⟩ := src.off _ _ _ _ hP (OFF.below hl hb5)
    refine ⟨p1, by omega, ?_, ?_, ?_, ?_, fun k hk => .inl (q1 k hk)⟩ <;> rw [← hW5]
    · exact F4.c2.other (by show _ ≠ w.heap.size + 1 + 1 + 1; omega) _
    · exact F4.c3.other (by show _ ≠ w.heap.size + 1 + 1 + 1; omega) _
    · exact F4.cp.other (by show _ ≠ w.heap.size + 1 + 1 + 1; omega) _
    · exact F4.c1.set 0 _
  have cp := peaks_ok n hn W5 (hT.below h0 hb5) (by omega)
  have SA : Aside (PSRC s ∧ PASKS s vt ∧ (∀ h k, VV h k → s.V (PLC h k) ∧ Node h k) ∧ (∀ h k, VV (h + 1) k → VV h (2 * k) ∧ VV h (2 * k + 1)) ∧ (∀ x ∈ SPAN 0 n, VV x.1 x.2) ∧ (∀ k, s.FT w k → k < w.heap.size) ∧ n ≤ 4611686018427387904) := ⟨src, hask, hV, hK, hPk, hl, hn⟩
  have S4 : Aside (PFS s vt w ZP [] [] 0 W5 ∧ W5.heap.size = w.heap.size + 4) := ⟨F5, hs5⟩
  have SZ : Aside (PTG 0 (fun _ => 0) (fun _ => 0) 0 = ZP ∧ ZP.size = 66 ∧ ZP.all (·.oneCell') = true) := ⟨eZ, hZ66, hZ1⟩
  clear src hask hV hK hPk hl hn hP hT h0 hb4 hs4 F4 hs5 hb5 F5 eZ hZ66 hZ1
  go_enter Tryd.func7, Tryd.ntmps7
  go_wp2_with fail
  go_step3
  go_wp2_with fail
  refine cp.mono ?_
  rintro e w1 ⟨rb, rc, rfl, hrow, hb1⟩
  clear cp hW4 hW5 x4 z4
  have B1 : Aside (PFS s vt w ZP [] [] 0 w1 ∧ PROW s w w1 rb (SPAN 0 n)) := by
    obtain ⟨a1, a2, a3, a4, a5, a6, a7⟩ := SA.out
    have f1 := S4.out.1.below a1 hb1
    have hr := hrow.lt rb rfl
    have h4 := S4.out.2
    refine ⟨f1, fun j h k e => ?_, hr.2, fun e => ?_, by omega⟩
    · have hj : j < PC n := by rw [← SPAN_zero_length a7]; exact (List.getElem?_eq_some_iff.1 e).1
      rw [SPAN_zero_at a7 hj] at e
      cases e
      have := hrow.cellAt j (by omega)
      rw [this, UCELLS, List.getElem?_map]
      have hp := PEAKS_at (n := n) (i := j) (by omega) hj
      rw [List.getD_eq_getElem?_getD] at hp
      have hlen := PEAKS_length (n := n) (by omega)
      rw [List.getElem?_eq_getElem (by omega)] at hp ⊢
      simp only [Option.getD_some] at hp
      rw [hp]
      rfl
    · obtain ⟨p1, q1⟩ := a1.off _ _ _ _ S4.out.1.st (OFF.below (fun k hk => a1.lt _ _ _ _ S4.out.1.st hk) hb1)
      rcases S4.out.1.foot _ (q1 _ e) with e1 | e1
      · have := a6 _ e1
        omega
      · have := a1.lt _ _ _ _ S4.out.1.st (q1 _ e)
        omega
  have B2 : Aside (PREST s VV n 62 (SPAN 0 n) 210 (SPAN 0 n) [] ∧ (SPAN 0 n).length = PC n ∧ (SPAN 0 n).length ≤ 64) := by
    obtain ⟨a1, a2, a3, a4, a5, a6, a7⟩ := SA.out
    refine ⟨⟨rfl, fun x hx => ⟨(a3 _ _ (a5 x hx)).2.1, a5 x hx⟩⟩, SPAN_zero_length a7, ?_⟩
    rw [SPAN_zero_length a7]
    exact PC_lt_pow 64 n (by omega)
  clear hrow hb1 S4
  go_wp2_with fail
  go_step3
  go_wp2_with fail
  go_loopg [10, 11] 62 (fun f s10 s11 wx => ∃ (row : List (Nat × Nat)) (rb rc : Nat) (no : Int) (L : List Nat), s10 = .slice (some ⟨rb, 0, none⟩) row.length rc ∧ s11 = .int .i64 no ∧ Aside (PREST s VV n f row no row L ∧ PFS s vt w ZP L L L.length wx ∧ PROW s w wx rb row ∧ row.length ≤ 64))
  case atStart => exact ⟨SPAN 0 n, rb, rc, 210, [], by rw [B2.out.2.1], rfl, B2.out.1, B1.out.1, B1.out.2, B2.out.2.2⟩
  case round =>
    obtain ⟨row, rb, rc, no, L, rfl, rfl, A⟩ := hrel
    clear B1 B2
    obtain ⟨fo, hfo⟩ : ∃ fo, gk = fo := ⟨_, rfl⟩
    have HF : Aside (gk = fo) := hfo
    rw [hfo] at A
    obtain ⟨N, hN⟩ : ∃ N, row.length = N := ⟨_, rfl⟩
    have HN : Aside (row.length = N ∧ N ≤ 64) := ⟨hN, by rw [← hN]; exact A.out.2.2.2⟩
    rw [hN]
    clear hN hfo
    go_wp2_with fail
    generalize wr = wo at *
    go_loopg [11, 30] N (fun r s11 s30 wx => ∃ (j : Nat) (L' : List Nat), s11 = .int .i64 no ∧ s30 = .int .i64 (j : Int) ∧ Aside (j + r = N ∧ PREST s VV n fo row no (row.drop j) L' ∧ PFS s vt w ZP L' L' L'.length wx ∧ PROW s w wx rb row))
    case atStart => exact ⟨0, L, rfl, rfl, by omega, A.out.1, A.out.2.1, A.out.2.2.1⟩
    case round =>
      obtain ⟨j, L', rfl, rfl, I⟩ := hrel
      clear A
      cases gk with
      | zero =>
        obtain rfl : j = N := by have := I.out.1; omega
        have hlt : ¬ (j : Int) < (j : Int) := by omega
        obtain ⟨i1, i2, i3, i4⟩ := I.out
        have hst := store_part (show Has wr (w.heap.size + 1 + 1) ZP 29 from i3.cp) SZ.out.2.1 SZ.out.2.1 SZ.out.2.2
        have hZ := SZ.out.2.1
        have R1 : Aside (PANS s (PFST s.EA s.EB (SAME s) n) (.returned (.tuple #[.agg ZP, .int .i64 no])) (wr.setRow (w.heap.size + 1 + 1) ZP) ∧ Has (wr.setRow (w.heap.size + 1 + 1) ZP) (w.heap.size + 1 + 1) ZP 29) := by
          have e := i3.ends SA.out.1 SA.out.2.2.2.2.2.1 ZP
          refine ⟨?_, e.2⟩
          rw [i2.out, List.drop_of_length_le (by have := HN.out.1; omega)]
          exact ⟨e.1, .inl ⟨no, rfl, by rw [SZ.out.1]⟩⟩
        clear i1 i2 i3 i4 I
        go_wp2_with fail
        (try simp only [Exit.inBlock, Exit.then])
        refine bodyPost_ret (v := .tuple #[.agg ZP, .int .i64 no]) ?_ rfl R1.out.1
        exact results_part rfl _ _ (w.heap.size + 1 + 1) 29 _ (0, 0) _ rfl R1.out.2 _ rfl Tryd.underlying29 (by rw [SZ.out.2.1]; exact info_part)
      | succ r =>
        obtain ⟨i1, i2, i3, i4⟩ := I.out
        have hlt : (j : Int) < (N : Int) := by omega
        obtain ⟨h, k, hjk⟩ : ∃ h k, row[j]? = some (h, k) := ⟨_, _, List.getElem?_eq_getElem (by have := HN.out.1; omega)⟩
        have x0 := i4.cells j h k hjk
        obtain ⟨a1, a2, a3, a4, a5, a6, a7⟩ := SA.out
        have hlow := i2.low _ (List.mem_of_getElem? hjk)
        have hvv := a3 h k hlow.2
        have hL := i2.few a7
        rw [drop_at hjk] at i2
        have cq : Calls Tryd.prog 21 #[.int .u64 ((PLC h k : Nat) : Int), .pointer (some ⟨w.heap.size + 1 + 1 + 1, 0, none⟩), .pointer (some ⟨w.heap.size, 0, none⟩), .pointer (some ⟨w.heap.size + 1, 0, none⟩)] wr (PASK s wr (w.heap.size + 1 + 1 + 1) L' L' L'.length (PLC h k)) := a2 wr L' L' (PLC h k) L'.length hvv.1 (by omega) (by omega) (by omega) i3.st _ _ _ (i3.lob a1 a6) i3.c1 i3.c2 i3.c3
        have I2 : Aside (j + 1 + r = N ∧ PREST s VV n fo row no ((h, k) :: row.drop (j + 1)) L' ∧ PFS s vt w ZP L' L' L'.length wr ∧ PROW s w wr rb row ∧ h ≤ fo ∧ VV h k ∧ Node h k ∧ L'.length ≤ 125) := ⟨by omega, i2, i3, i4, hlow.1, hlow.2, hvv.2, hL⟩
        have hj1 : wrap64 ((j : Int) + 1) = ((j + 1 : Nat) : Int) := by have := HN.out.2; unfold wrap64; omega
        have HJ : Aside (wrap64 ((j : Int) + 1) = ((j + 1 : Nat) : Int)) := hj1
        clear i1 i2 i3 i4 a1 a2 a3 a4 a5 a6 a7 hlow hvv hL hjk I hj1
        obtain ⟨pp, hpp⟩ : ∃ pp, PLC h k = pp := ⟨_, rfl⟩
        have HP : Aside (PLC h k = pp) := hpp
        rw [hpp] at x0 cq
        clear hpp
        go_wp2_with fail
        refine cq.mono ?_
        rintro e w2 ⟨X, Y, E, rfl, h1, hz1, hk1, hf1, hor⟩
        clear cq x0
        obtain ⟨W, W1, W2, hW, hst1, hst2, hX, hY, hbW⟩ := two_put w2 X Y
        have hsX := HX.UARR_size .u8 32 X
        have hsY := HX.UARR_size .u8 32 Y
        have hrow2 : PROW s w w2 rb row := I2.out.2.2.2.1.asked hz1 hk1 hf1
        by_cases hE : E = 0
        · obtain ⟨c1, rfl, rfl, c4, c5⟩ : s.EA pp = 0 ∧ X = s.A pp ∧ Y = s.B pp ∧ s.EB pp = 0 ∧ s.P (L' ++ [pp]) (L' ++ [pp]) w2 := by
            rcases hor with ⟨o1, o2, _⟩ | ⟨o1, o2, o3, o4, o5⟩
            · exact absurd (o2.symm.trans hE) o1
            · exact ⟨o1, o2, o3, o4.symm.trans hE, o5⟩
          have F2 : PFS s vt w ZP (L' ++ [pp]) (L' ++ [pp]) (L' ++ [pp]).length W2 := by
            have := (I2.out.2.2.1.asked SA.out.2.2.2.2.2.1 c5 h1 hz1 hk1 hf1).below SA.out.1 hbW
            rwa [List.length_append]
          have R2 : PROW s w W2 rb row := hrow2.below SA.out.1 c5 hbW
          have T : Aside (PFS s vt w ZP (L' ++ [pp]) (L' ++ [pp]) (L' ++ [pp]).length W2 ∧ PROW s w W2 rb row ∧ s.EA pp = 0 ∧ s.EB pp = 0) := ⟨F2, R2, c1, c4⟩
          clear hor h1 hz1 hk1 hf1 hrow2 c1 c4 c5 F2 R2 hbW
          subst hE
          have hq := equal_same_all s pp
          obtain ⟨sb, hsb⟩ : ∃ sb, SAME s pp = sb := ⟨_, rfl⟩
          rw [hsb] at hq
          have HS : Aside (SAME s pp = sb) := hsb
          clear hsb
          go_upto_region 10 with fail
          clear hst1 hst2 hW
          cases sb with
          | true =>
            have K : Aside (j + 1 + r = N ∧ PREST s VV n fo row no (row.drop (j + 1)) (L' ++ [pp]) ∧ PFS s vt w ZP (L' ++ [pp]) (L' ++ [pp]) (L' ++ [pp]).length W2 ∧ PROW s w W2 rb row) := by
              have e := I2.out.2.1.next (by dsimp only; rw [HP.out]; exact T.out.2.2.1) (by dsimp only; rw [HP.out]; exact T.out.2.2.2) (by dsimp only; rw [HP.out]; exact HS.out)
              dsimp only at e
              rw [HP.out] at e
              exact ⟨I2.out.1, e, T.out.1, T.out.2.1⟩
            clear T I2 HP HS
            go_wp2_with (first
              | (refine wpList_load_row rfl 27 (.tmp 14) rfl w2.heap.size rfl 27 (HX.UARR .u8 32 (s.A pp)) (0, 0) _ hX Tryd.underlying27 rfl (HX.info_HASH _) ?_)
              | (refine wpList_load_row rfl 27 (.tmp 15) rfl (w2.heap.size + 1) rfl 27 (HX.UARR .u8 32 (s.B pp)) (0, 0) _ hY Tryd.underlying27 rfl (HX.info_HASH _) ?_))
            clear hX hY hsX hsY hq
            go_wp2_with fail
            go_roundg r
            case measure => exact Nat.lt_succ_self _
            case rel => exact ⟨j + 1, L' ++ [pp], rfl, by first | rfl | (rw [HJ.out]), K.out⟩
          | false =>
            have cs : SpotAt (pp : Int) h k true := by have := SpotAt.node I2.out.2.2.2.2.2.2.1; rwa [HP.out] at this
            have KO : Aside (PFST s.EA s.EB (SAME s) n = PGO s.EA s.EB (SAME s) fo (h, k) (L' ++ [pp])) := by
              rw [I2.out.2.1.out, PSC_down (by dsimp only; rw [HP.out]; exact T.out.2.2.1) (by dsimp only; rw [HP.out]; exact T.out.2.2.2) (by dsimp only; rw [HP.out]; exact HS.out)]
              dsimp only
              rw [HP.out]
              exact rfl
            cases h with
            | zero =>
              have ck := kids_leaf (pp : Int) k W2 cs
              have ci := fun W => index_leaf (pp : Int) k W cs
              clear cs
              go_wp2_with (first
                | (refine wpList_load_row rfl 27 (.tmp 14) rfl w2.heap.size rfl 27 (HX.UARR .u8 32 (s.A pp)) (0, 0) _ hX Tryd.underlying27 rfl (HX.info_HASH _) ?_)
                | (refine wpList_load_row rfl 27 (.tmp 15) rfl (w2.heap.size + 1) rfl 27 (HX.UARR .u8 32 (s.B pp)) (0, 0) _ hY Tryd.underlying27 rfl (HX.info_HASH _) ?_))
              refine ck.mono ?_
              rintro e w3 ⟨rfl, hb3⟩
              clear ck
              have ci3 := ci w3
              go_wp2_with fail
              refine ci3.mono ?_
              rintro e w4 ⟨rfl, hb4⟩
              clear ci ci3 hq
              have hb24 : Below W2.heap.size W2 w4 := hb3.trans (hb4.mono hb3.size)
              have hX4 : Has w4 w2.heap.size (HX.UARR .u8 32 (s.A pp)) 27 := Has.keep hX hb24
              have hY4 : Has w4 (w2.heap.size + 1) (HX.UARR .u8 32 (s.B pp)) 27 := Has.keep hY hb24
              have F4 := T.out.1.below SA.out.1 hb24
              obtain ⟨q, hq⟩ : ∃ q, (L' ++ [pp]).length = q := ⟨_, rfl⟩
              rw [hq] at F4
              have xc : w4.cell? ⟨w.heap.size + 1 + 1 + 1, 0, none⟩ = some (.int .i64 (q : Int)) := F4.c1.cell 0
              have hcp : Has w4 (w.heap.size + 1 + 1) ZP 29 := F4.cp
              have R1 : Aside (PANS s (PFST s.EA s.EB (SAME s) n) (.returned (.tuple #[.agg (PTG k (s.A pp) (s.B pp) q), .int .i64 0])) (w4.setRow (w.heap.size + 1 + 1) (PTG k (s.A pp) (s.B pp) q)) ∧ Has (w4.setRow (w.heap.size + 1 + 1) (PTG k (s.A pp) (s.B pp) q)) (w.heap.size + 1 + 1) (PTG k (s.A pp) (s.B pp) q) 29) := by
                have e := F4.ends SA.out.1 SA.out.2.2.2.2.2.1 (PTG k (s.A pp) (s.B pp) q)
                refine ⟨?_, e.2⟩
                rw [KO.out, PGO_leaf rfl]
                refine ⟨e.1, .inr ⟨k, rfl, ?_⟩⟩
                rw [HP.out, hq]
              have hZ := SZ.out.2.1
              clear hX hY hb3 hb4 hb24 F4 hq T KO I2
              go_wp2_with (first
                | (refine wpList_load_row rfl 27 (.tmp 14) rfl w2.heap.size rfl 27 (HX.UARR .u8 32 (s.A pp)) (0, 0) _ hX4 Tryd.underlying27 rfl (HX.info_HASH _) ?_)
                | (refine wpList_load_row rfl 27 (.tmp 15) rfl (w2.heap.size + 1) rfl 27 (HX.UARR .u8 32 (s.B pp)) (0, 0) _ hY4 Tryd.underlying27 rfl (HX.info_HASH _) ?_)
                | (refine build_part rfl (.tmp 61) (.tmp 62) (.tmp 63) (.tmp 64) rfl k (s.A pp) (s.B pp) q rfl rfl rfl rfl ?_)
                | (refine wpList_store_row rfl 29 (.tmp 6) (.tmp 65) rfl _ _ rfl rfl 29 _ hcp (by rw [PTG_size]; exact info_part) (by rw [PTG_size, hZ]) (PTG_one _ _ _ _) ?_))
              (try simp only [Exit.inBlock, Exit.then])
              refine bodyPost_ret (v := .tuple #[.agg (PTG k (s.A pp) (s.B pp) q), .int .i64 0]) ?_ rfl R1.out.1
              exact results_part rfl _ _ (w.heap.size + 1 + 1) 29 _ (0, 0) _ rfl R1.out.2 _ rfl Tryd.underlying29 (by rw [PTG_size]; exact info_part)
            | succ g =>
              have ck : Calls Tryd.prog 23 #[.int .u64 (pp : Int)] W2 fun e w' => e = .returned (.tuple #[.int .u64 ((PLC g (2 * k) : Nat) : Int), .int .u64 ((PLC g (2 * k + 1) : Nat) : Int), .bool true]) ∧ Below W2.heap.size W2 w' := by
                have := kids_ok g k I2.out.2.2.2.2.2.2.1 W2
                rwa [HP.out] at this
              clear cs
              go_wp2_with (first
                | (refine wpList_load_row rfl 27 (.tmp 14) rfl w2.heap.size rfl 27 (HX.UARR .u8 32 (s.A pp)) (0, 0) _ hX Tryd.underlying27 rfl (HX.info_HASH _) ?_)
                | (refine wpList_load_row rfl 27 (.tmp 15) rfl (w2.heap.size + 1) rfl 27 (HX.UARR .u8 32 (s.B pp)) (0, 0) _ hY Tryd.underlying27 rfl (HX.info_HASH _) ?_))
              refine ck.mono ?_
              rintro e w3 ⟨rfl, hb3⟩
              clear ck hX hY hsX hsY hq
              go_wp2_with fail
              obtain ⟨f', hf'⟩ : ∃ f', fo = f' + 1 := ⟨fo - 1, by have := I2.out.2.2.2.2.1; omega⟩
              have hal : Below W2.heap.size W2 (w3.alloc (.cells #[.int .u64 ((PLC g (2 * k) : Nat) : Int), .int .u64 ((PLC g (2 * k + 1) : Nat) : Int)] 25)) := hb3.alloc hb3.size _
              have Z : Aside (PREST s VV n f' [(g, 2 * k), (g, 2 * k + 1)] 160 [(g, 2 * k), (g, 2 * k + 1)] (L' ++ [pp]) ∧ PFS s vt w ZP (L' ++ [pp]) (L' ++ [pp]) (L' ++ [pp]).length (w3.alloc (.cells #[.int .u64 ((PLC g (2 * k) : Nat) : Int), .int .u64 ((PLC g (2 * k + 1) : Nat) : Int)] 25)) ∧ PROW s w (w3.alloc (.cells #[.int .u64 ((PLC g (2 * k) : Nat) : Int), .int .u64 ((PLC g (2 * k + 1) : Nat) : Int)] 25)) w3.heap.size [(g, 2 * k), (g, 2 * k + 1)]) := by
                have hv := SA.out.2.2.2.1 g k I2.out.2.2.2.2.2.1
                have hge := I2.out.2.2.2.2.1
                refine ⟨⟨?_, fun x hx => ?_⟩, T.out.1.below SA.out.1 hal, ⟨fun i x y e => ?_, by simp, fun e => ?_, ?_⟩⟩
                · rw [KO.out, hf', PGO_kids (by simp)]
                  rfl
                · simp only [List.mem_cons, List.not_mem_nil, or_false] at hx
                  rcases hx with rfl | rfl
                  · exact ⟨by dsimp only; omega, hv.1⟩
                  · exact ⟨by dsimp only; omega, hv.2⟩
                · have hH := Has.new w3 #[.int .u64 ((PLC g (2 * k) : Nat) : Int), .int .u64 ((PLC g (2 * k + 1) : Nat) : Int)] 25
                  rw [hH.cell i]
                  match i, e with
                  | 0, e => cases e; rfl
                  | 1, e => cases e; rfl
                  | i + 2, e => simp at e
                · have h3 := T.out.1.below SA.out.1 hb3
                  have h4 := (SA.out.1.off _ _ _ _ h3.st (OFF.alloc (fun k hk => SA.out.1.lt _ _ _ _ h3.st hk) (.cells #[.int .u64 ((PLC g (2 * k) : Nat) : Int), .int .u64 ((PLC g (2 * k + 1) : Nat) : Int)] 25))).2 _ e
                  have := SA.out.1.lt _ _ _ _ h3.st h4
                  omega
                · have := T.out.1.size
                  have := hb3.size
                  omega
              clear T I2 HP HS KO hal hb3 HJ HN
              go_roundg f'
              case measure => have := HF.out; omega
              case rel => exact ⟨[(g, 2 * k), (g, 2 * k + 1)], w3.heap.size, 2, 160, L' ++ [pp], rfl, rfl, Z.out.1, Z.out.2.1, Z.out.2.2, by simp⟩
        · have hE' : (E != 0) = true := bne_iff_ne.2 hE
          have KK : Aside (∃ LA LB, PFST s.EA s.EB (SAME s) n = (.err E, LA, LB) ∧ PFS s vt w ZP LA LB (L'.length + 1) W2) := by
            rcases hor with ⟨o1, o2, o3⟩ | ⟨o1, o2, o3, o4, o5⟩
            · refine ⟨_, _, ?_, (I2.out.2.2.1.asked SA.out.2.2.2.2.2.1 o3 h1 hz1 hk1 hf1).below SA.out.1 hbW⟩
              rw [I2.out.2.1.out, PSC_err_a (by dsimp only; rw [HP.out]; exact o1)]
              dsimp only
              rw [HP.out, o2]
            · refine ⟨_, _, ?_, (I2.out.2.2.1.asked SA.out.2.2.2.2.2.1 o5 h1 hz1 hk1 hf1).below SA.out.1 hbW⟩
              rw [I2.out.2.1.out, PSC_err_b (by dsimp only; rw [HP.out]; exact o1) (by dsimp only; rw [HP.out, ← o4]; exact hE)]
              dsimp only
              rw [HP.out, o4]
          obtain ⟨LA, LB, k1, k2⟩ := KK.out
          have hst3 := store_part (show Has W2 (w.heap.size + 1 + 1) ZP 29 from k2.cp) SZ.out.2.1 SZ.out.2.1 SZ.out.2.2
          have R1 : Aside (PANS s (PFST s.EA s.EB (SAME s) n) (.returned (.tuple #[.agg ZP, .int .i64 E])) (W2.setRow (w.heap.size + 1 + 1) ZP) ∧ Has (W2.setRow (w.heap.size + 1 + 1) ZP) (w.heap.size + 1 + 1) ZP 29) := by
            have e := k2.ends SA.out.1 SA.out.2.2.2.2.2.1 ZP
            refine ⟨?_, e.2⟩
            rw [k1]
            exact ⟨e.1, .inl ⟨E, rfl, by rw [SZ.out.1]⟩⟩
          have hZ := SZ.out.2.1
          clear hor h1 hz1 hk1 hf1 hrow2 hX hY hbW k1 k2 KK hE
          go_wp2_with fail
          (try simp only [Exit.inBlock, Exit.then])
          refine bodyPost_ret (v := .tuple #[.agg ZP, .int .i64 E]) ?_ rfl R1.out.1
          exact results_part rfl _ _ (w.heap.size + 1 + 1) 29 _ (0, 0) _ rfl R1.out.2 _ rfl Tryd.underlying29 (by rw [SZ.out.2.1]; exact info_part)
end Go.Proofs.YtnplhejopmoopaaDoor

/- Steps of a region that draws its order, one operation at a time. -/
namespace Go.Proofs.YtnplhejopmoopaaDoor
open Go.RowKit
set_option maxRecDepth 100000

theorem step_val {ops : Array Oper} {o : Oper} {a : Act} {w w' : World} {K : Act → World → Prop} {Q : Exit → Act → World → Prop} {E : Prop} {v : Value} (hg : o.guard = none)
    (hrun : (execOp a.eval o).run Tryd.prog w = .ok (.value v) w') (h : K (a.put o.dst v) w') : if Region.wanted o (yielded ops a.tmps) = true then Oper.wp Tryd.prog o a w K Q else E := by
  have hw : Region.wanted o (yielded ops a.tmps) = true := by simp [Region.wanted, hg]
  rw [if_pos hw]
  unfold Oper.wp
  rw [hrun]
  exact h
theorem step_skip {ops : Array Oper} {o : Oper} {a : Act} {w w' : World} {K : Act → World → Prop} {Q : Exit → Act → World → Prop} {E : Prop} (hg : o.guard = none)
    (hrun : (execOp a.eval o).run Tryd.prog w = .ok .skip w') (h : K (a.put o.dst undef) w') : if Region.wanted o (yielded ops a.tmps) = true then Oper.wp Tryd.prog o a w K Q else E := by
  have hw : Region.wanted o (yielded ops a.tmps) = true := by simp [Region.wanted, hg]
  rw [if_pos hw]
  unfold Oper.wp
  rw [hrun]
  exact h
theorem run_skip {s : Sem Unit} {w w' : World} (h : s.run Tryd.prog w = .ok () w') : (do s; pure Next.skip : Sem Next).run Tryd.prog w = .ok .skip w' := by
  simp [h]
theorem anyHone {ops : Array Oper} {Q : Exit → Act → World → Prop} {md : Region.Mode} {S : World → Prop} {fuel : Nat} {listed : Array Bool} {a : Act} {w : World} {o : Oper} (i : Nat) (hr : Region.ready md ops listed = [i]) (ho : ops[i]? = some o)
    (h : ∀ K' : Act → World → Prop, Shut (∀ a w, S w → (S w → wpAnyH Tryd.prog md ops Q S fuel (listed.setIfInBounds i true) a w) → K' a w) → if Region.wanted o (yielded ops a.tmps) = true then Oper.wp Tryd.prog o a w K' Q else K' (a.put o.dst undef) w) : wpAnyH Tryd.prog md ops Q S (fuel + 1) listed a w :=
  wpAnyH_ready hr (by simp) (AllReadyH.cons ho h AllReadyH.nil)
theorem run_value {s : Sem Value} {w w' : World} {v : Value} (h : s.run Tryd.prog w = .ok v w') : (do pure (Next.value (← s)) : Sem Next).run Tryd.prog w = .ok (.value v) w' := by
  simp [h, Result.andThen]
end Go.Proofs.YtnplhejopmoopaaDoor
