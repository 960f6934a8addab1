/- Texts of ManyBytes, one behind the other: ManyHash, ManyHashApp, StepLists. -/
import Derived.Laws.CopyOwn
import Derived.Deep.RegionLaw
import Derived.Deep.AppendLies
import Derived.Test.YtmpaifkjlhodpaaDoorManyBytesP11
import Derived.Test.YtmpaifkjlhodpaaDoorManyBytesP13
/- hash of the reader of package many: the next 32 bytes. -/
namespace Go.Proofs.YtmpaifkjlhodpaaDoor
open Go.RowKit
set_option maxRecDepth 100000

theorem zero_hash32 : ∀ w, (zeroValue 57).run Tryd.prog w = .ok (.agg ZARR) w := (zero_of_info (P := Tryd.prog) (n := 32) (by kernel_rfl)).1
theorem mhash_short {w0 w : World} {rb : Nat} {t : List Int} (R : RDR w0 w rb t) (ht : t.length < 32) : Calls Tryd.prog 55 #[.pointer (some ⟨rb, 0, none⟩)] w fun e w' => e = .panicked (WRONG 11) ∧ Below w.heap.size w w' := by
  have hz := zero_hash32
  obtain ⟨a, c, h1, h2⟩ := R.rd
  obtain ⟨n, hn⟩ : ∃ n, t.length = n := ⟨_, rfl⟩
  rw [hn] at h1 ht
  have x0 : (w.alloc (.cells ZARR 57)).cell? ⟨rb, 0, none⟩ = some (.slice a n c) := (h1.alloc _).cell 0
  have hlt : (n : Int) < 32 := by omega
  clear R h1 h2 hn ht
  go_enter Tryd.func55, Tryd.ntmps55
  go_wp2_with fail
  exact ⟨rfl, rfl, (Below.refl _ _).alloc (Nat.le_refl _) _⟩
/-- what hash leaves. -/
def HASHD (w0 w : World) (rb : Nat) (t : List Int) (e : Ending) (w' : World) : Prop := e = .returned (.agg (CELLS (t.take 32)).toArray) ∧ RDR w0 w' rb (t.drop 32) ∧ STAY w w' rb
set_option maxHeartbeats 2000000 in
theorem mhash_ok {w0 w : World} {rb : Nat} {t : List Int} (R : RDR w0 w rb t) (ht : 32 ≤ t.length) : Calls Tryd.prog 55 #[.pointer (some ⟨rb, 0, none⟩)] w (HASHD w0 w rb t) := by
  have hz := zero_hash32
  obtain ⟨a, c, h1, h2⟩ := R.rd
  obtain ⟨b, off, rfl, hb, hcs⟩ := h2.addr (by omega)
  have hrb := h1.lt
  obtain ⟨n, hn⟩ : ∃ n, t.length = n := ⟨_, rfl⟩
  obtain ⟨w1, e1⟩ : ∃ w1, w.alloc (.cells ZARR 57) = w1 := ⟨_, rfl⟩
  obtain ⟨w2, e2⟩ : ∃ w2, w1.alloc (.cells ZARR 57) = w2 := ⟨_, rfl⟩
  have s1 : w1.heap.size = w.heap.size + 1 := by rw [← e1]; simp
  have s2 : w2.heap.size = w.heap.size + 2 := by rw [← e2]; simp; omega
  have hb2 : Below w.heap.size w w2 := by rw [← e2, ← e1]; exact ((Below.refl _ _).alloc (Nat.le_refl _) _).alloc (by simp) _
  have H1 : Has w2 w.heap.size ZARR 57 := by rw [← e2, ← e1]; exact (Has.new w _ _).alloc _
  have H2 : Has w2 w1.heap.size ZARR 57 := by rw [← e2]; exact Has.new w1 _ _
  have hr1 : Has w1 rb #[.slice (some ⟨b, off, none⟩) n c] 68 := by rw [← e1, ← hn]; exact h1.alloc _
  have x0 : w1.cell? ⟨rb, 0, none⟩ = some (.slice (some ⟨b, off, none⟩) n c) := hr1.cell 0
  have hr2 : Has w2 rb #[.slice (some ⟨b, off, none⟩) n c] 68 := by rw [← e2]; exact hr1.alloc _
  have y0 : w2.cell? ⟨rb, 0, none⟩ = some (.slice (some ⟨b, off, none⟩) n c) := hr2.cell 0
  have hlt : ¬ (n : Int) < 32 := by omega
  have k1 : (32 : Int) ≤ (n : Int) := by omega
  have hcn := h2.2.1
  have k2 : (n : Int) ≤ (c : Int) := by omega
  have k3 : (32 : Int) ≤ (c : Int) := by omega
  obtain ⟨Z, hZ⟩ : ∃ Z, CELLS (t.take 32) = Z := ⟨_, rfl⟩
  have hZl : Z.length = 32 := by rw [← hZ, CELLS, List.length_map, List.length_take]; omega
  have hsrc : ∀ j v, Z[j]? = some v → w2.cell? ((⟨b, off, none⟩ : Addr).add j) = some v := by
    intro j v hv
    have hj : j < 32 := by have := (List.getElem?_eq_some_iff.1 hv).1; omega
    rw [← hZ, CELLS_get _ _ (by rw [List.length_take]; omega)] at hv
    rw [addr_add]
    refine (((R.bel.trans (hb2.mono R.bel.size)).cell (p := ⟨b, off + j, none⟩) hb).trans (hcs j (by omega))).trans ?_
    rw [← hv]
    congr 2
    rw [List.getD_eq_getElem?_getD, List.getD_eq_getElem?_getD, List.getElem?_take, if_pos hj]
  have hone : ∀ v ∈ Z, v.oneCell' = true := by rw [← hZ]; exact CELLS_one _
  have HA : Aside (RDR w0 w rb t ∧ Has w2 rb #[.slice (some ⟨b, off, none⟩) n c] 68 ∧ SRC w0 (some ⟨b, off, none⟩) c t ∧ t.length = n ∧ 32 ≤ n ∧ Below w.heap.size w w2 ∧ Has w2 w.heap.size ZARR 57 ∧ Has w2 w1.heap.size ZARR 57 ∧ w1.heap.size = w.heap.size + 1 ∧ rb < w.heap.size ∧ Z.length = 32 ∧ CELLS (t.take 32) = Z ∧ n ≤ c) := ⟨R, hr2, h2, hn, by omega, hb2, H1, H2, s1, hrb, hZl, hZ, by omega⟩
  have HS : Aside ((∀ j v, Z[j]? = some v → w2.cell? ((⟨b, off, none⟩ : Addr).add j) = some v) ∧ ∀ v ∈ Z, v.oneCell' = true) := ⟨hsrc, hone⟩
  have hu8 : (Tryd.prog.info? 5).map (·.size) = some 1 := by kernel_rfl
  unfold HASHD
  rw [hZ]
  clear R h1 h2 hb hcs hn hb2 H1 H2 hr1 hr2 ht hZl hZ hsrc hone hcn s1 s2 hrb
  go_enter Tryd.func55, Tryd.ntmps55
  go_upto_region 4 with fail
  clear e1 e2 x0 hz
  go_region_law (refine step_copy_splice rfl (.tmp 11) (.tmp 15) 35 35 rfl 5 Tryd.underlying35 hu8 (some ⟨w1.heap.size, 0, none⟩) (some ⟨b, off, none⟩) 32 32 n c (by simp [Act.eval]) (by simp [Act.eval]) w1.heap.size 0 ZARR.toList 57 (by exact HA.out.2.2.2.2.2.2.2.1) Z (by rw [HA.out.2.2.2.2.2.2.2.2.2.2.1]; exact (Nat.min_eq_right HA.out.2.2.2.2.1).symm) (fun _ => ⟨rfl, _, rfl, HS.out.1⟩) (by rw [HA.out.2.2.2.2.2.2.2.2.2.2.1]; decide) HS.out.2 w1.heap.size w2 (by exact (Below.refl _ _).drew) (Nat.le_refl _) ?_; intro w4 hg4 hb4)
  have hg5 : Has w4 w1.heap.size Z.toArray 57 := by
    have hg5 : w4.heap[w1.heap.size]? = some (.cells (splice ZARR.toList 0 Z).toArray 57 (0, 0)) := hg4
    have e : splice ZARR.toList 0 Z = Z := by unfold splice; rw [List.take_zero, List.nil_append, HA.out.2.2.2.2.2.2.2.2.2.2.1, List.drop_of_length_le (by decide), List.append_nil]
    rw [e] at hg5
    exact hg5
  have hr4 : Has w4 rb #[.slice (some ⟨b, off, none⟩) n c] 68 := HA.out.2.1.below (B := w1.heap.size) (w := w2) (hb4) (by have := HA.out.2.2.2.2.2.2.2.2; omega)
  have h14 : Has w4 w.heap.size ZARR 57 := HA.out.2.2.2.2.2.2.1.below (B := w1.heap.size) (w := w2) (hb4) (by have := HA.out.2.2.2.2.2.2.2.2; omega)
  have x0 := hr4.cell 0
  have f0 := hr4.frozen 0
  have W4 : Aside (Below w.heap.size w w4 ∧ Has w4 w1.heap.size Z.toArray 57 ∧ Has w4 rb #[.slice (some ⟨b, off, none⟩) n c] 68 ∧ Has w4 w.heap.size ZARR 57) := ⟨HA.out.2.2.2.2.2.1.trans ((show Below w1.heap.size w2 w4 from hb4).mono (by have := HA.out.2.2.2.2.2.2.2.2; omega)), hg5, hr4, h14⟩
  clear hg4 hb4 hg5 hr4 h14 y0 HS
  obtain ⟨a', ha'⟩ : ∃ a', REST b off c 32 = a' := ⟨_, rfl⟩
  have FIN : Aside (∀ W, W = w4.setCell ⟨rb, 0, none⟩ (.slice a' (n - 32) (c - 32)) → Has W w.heap.size ZARR 57 ∧ Has W w1.heap.size Z.toArray 57 ∧ RDR w0 (W.setRow w.heap.size Z.toArray) rb (t.drop 32) ∧ STAY w (W.setRow w.heap.size Z.toArray) rb) := fun W hW => by
    have hne1 : w.heap.size ≠ rb := by have := HA.out.2.2.2.2.2.2.2.2; omega
    have hne2 : w1.heap.size ≠ rb := by have := HA.out.2.2.2.2.2.2.2.2; omega
    have g1 : Has W w.heap.size ZARR 57 := by rw [hW]; exact W4.out.2.2.2.other (a := ⟨rb, 0, none⟩) hne1 _
    have R4 : RDR w0 w4 rb t := by
      refine ⟨⟨_, c, ?_, HA.out.2.2.1⟩, HA.out.1.bel.trans (W4.out.1.mono HA.out.1.bel.size), HA.out.1.lb⟩
      rw [HA.out.2.2.2.1]
      exact W4.out.2.2.1
    have R5 : RDR w0 W rb (t.drop 32) := by
      have h5 := R4.moved (k := 32) (by rw [HA.out.2.2.2.1]; exact W4.out.2.2.1) HA.out.2.2.1 (by have := HA.out.2.2.2.1; have := HA.out.2.2.2.2.1; omega)
      rw [hW, ← ha', ← HA.out.2.2.2.1]
      exact h5
    have S5 : STAY w W rb := by rw [hW]; exact (STAY.of W4.out.1 (by have := HA.out.2.2.2.2.2.2.2.2; omega)).trans (STAY.set _ _ _ _)
    refine ⟨g1, by rw [hW]; exact W4.out.2.1.other (a := ⟨rb, 0, none⟩) hne2 _, ?_, ?_⟩
    · obtain ⟨ar, cr, q1, q2⟩ := R5.rd
      exact ⟨⟨ar, cr, q1.row_other hne1.symm _, q2⟩, below_row R5.bel (by have := R5.lb; have := HA.out.2.2.2.2.2.2.2.2; omega) _, R5.lb⟩
    · exact ⟨fun k hk hne => (setRow_other W w.heap.size k _ (by omega)).trans (S5.kp k hk hne), below_row S5.bl (by have := HA.out.2.2.2.2.2.2.2.2; omega) _⟩
  have HZ : Aside (Z.length = 32 ∧ CELLS (t.take 32) = Z) := ⟨HA.out.2.2.2.2.2.2.2.2.2.2.1, HA.out.2.2.2.2.2.2.2.2.2.2.2.1⟩
  have hinfo : (Tryd.prog.info? 57).map (·.size) = some Z.toArray.size := by
    have e : Z.toArray.size = 32 := by simp [HZ.out.1]
    have k : (Tryd.prog.info? 57).map (·.size) = some 32 := by kernel_rfl
    rw [e]
    exact k
  have hsz : Z.toArray.size = ZARR.size := by
    have e : Z.toArray.size = 32 := by simp [HZ.out.1]
    rw [e]
    rfl
  have hall : Z.toArray.all (·.oneCell') = true := by rw [← HZ.out.2]; exact cells_one _
  have HI : Aside ((Tryd.prog.info? 57).map (·.size) = some Z.toArray.size ∧ Z.toArray.size = ZARR.size ∧ Z.toArray.all (·.oneCell') = true) := ⟨hinfo, hsz, hall⟩
  clear hinfo hsz hall
  by_cases hc32 : c = 32
  · have HR : Aside (a' = some ⟨b, off, none⟩) := by show a' = _; rw [← ha']; simp [REST, hc32]
    have hn32 : n = 32 := by have := HA.out.2.2.2.2.1; have := HA.out.2.2.2.2.2.2.2.2; omega
    have ea := HR.out
    subst hc32 hn32 ea
    clear HA W4 ha'
    go_upto_region 6 with fail
    obtain ⟨w5, e5⟩ : ∃ w5, w4.setCell ⟨rb, 0, none⟩ (.slice (some ⟨b, off, none⟩) 0 0) = w5 := ⟨_, rfl⟩
    obtain ⟨f1, f2, f3, f4⟩ := FIN.out w5 e5.symm
    have FF : Aside (Has w5 w.heap.size ZARR 57 ∧ Has w5 w1.heap.size Z.toArray 57 ∧ RDR w0 (w5.setRow w.heap.size Z.toArray) rb (t.drop 32) ∧ STAY w (w5.setRow w.heap.size Z.toArray) rb) := ⟨f1, f2, f3, f4⟩
    rw [e5]
    clear f1 f2 f3 f4 e5 FIN x0 f0
    go_wp2_with (first
      | (refine wpList_load_row rfl 57 (.tmp 3) rfl w1.heap.size rfl 57 Z.toArray (0, 0) _ FF.out.2.1 Tryd.underlying57 rfl HI.out.1 ?_)
      | (refine wpList_store_row rfl 57 (.tmp 2) (.tmp 25) rfl _ _ rfl rfl 57 ZARR FF.out.1 HI.out.1 (by first | exact HI.out.2.1 | exact HI.out.2.1.symm) HI.out.2.2 ?_))
    refine bodyPost_ret (v := .agg Z.toArray) ?_ rfl ⟨rfl, FF.out.2.2⟩
    exact results_cell_row rfl _ _ w.heap.size 57 _ (0, 0) _ rfl (FF.out.1.row _) Tryd.underlying57 rfl HI.out.1
  · have HR : Aside (a' = some ⟨b, off + 32, none⟩) := by show a' = _; rw [← ha']; simp [REST, hc32]
    have hc1 : ¬ c - 32 = 0 := by have := HA.out.2.2.2.2.1; have := HA.out.2.2.2.2.2.2.2.2; omega
    have ea := HR.out
    subst ea
    clear HA W4 ha'
    go_upto_region 6 with fail
    obtain ⟨w5, e5⟩ : ∃ w5, w4.setCell ⟨rb, 0, none⟩ (.slice (some ⟨b, off + 32, none⟩) (n - 32) (c - 32)) = w5 := ⟨_, rfl⟩
    obtain ⟨f1, f2, f3, f4⟩ := FIN.out w5 e5.symm
    have FF : Aside (Has w5 w.heap.size ZARR 57 ∧ Has w5 w1.heap.size Z.toArray 57 ∧ RDR w0 (w5.setRow w.heap.size Z.toArray) rb (t.drop 32) ∧ STAY w (w5.setRow w.heap.size Z.toArray) rb) := ⟨f1, f2, f3, f4⟩
    rw [e5]
    clear f1 f2 f3 f4 e5 FIN x0 f0
    go_wp2_with (first
      | (refine wpList_load_row rfl 57 (.tmp 3) rfl w1.heap.size rfl 57 Z.toArray (0, 0) _ FF.out.2.1 Tryd.underlying57 rfl HI.out.1 ?_)
      | (refine wpList_store_row rfl 57 (.tmp 2) (.tmp 25) rfl _ _ rfl rfl 57 ZARR FF.out.1 HI.out.1 (by first | exact HI.out.2.1 | exact HI.out.2.1.symm) HI.out.2.2 ?_))
    refine bodyPost_ret (v := .agg Z.toArray) ?_ rfl ⟨rfl, FF.out.2.2⟩
    exact results_cell_row rfl _ _ w.heap.size 57 _ (0, 0) _ rfl (FF.out.1.row _) Tryd.underlying57 rfl HI.out.1
end Go.Proofs.YtmpaifkjlhodpaaDoor

/- A hash is put behind a list of hashes, and where it then lies. -/
namespace Go.Proofs.YtmpaifkjlhodpaaDoor
open Go.RowKit
set_option maxRecDepth 100000

theorem app_hashl {ops : Array Oper} {rest : List Oper} {o : Oper} {a : Act} {Q : Exit → Act → World → Prop} (w : World) (hgd : o.guard = none) (s x : Operand)
    (ho : o.op = .call { callee := .builtin .append, args := #[s, x], argTypes := #[30, 30] })
    (base : Nat) (v : Value) (n : Nat) (xs : List Value) (hs : a.eval s = v) (hown : w.ownsRow base 57 32 v n xs)
    (b c : Nat) (y : List Int) (hl : y.length = 32) (hx : a.eval x = .slice (some ⟨b, 0, none⟩) 1 c) (hc : Has w b (CELLS y).toArray 57)
    (hb : n ≤ 100000) (hbase : base ≤ w.heap.size)
    (h : ∀ g cap w', w'.ownsRow base 57 32 (.slice (some ⟨g, 0, none⟩) (n + 1) cap) (n + 1) (xs ++ CELLS y) → w.grownBy w' v.ownBlock → (v.ownBlock = some g ∨ g = w.heap.size) → g < w'.heap.size → wpList Tryd.prog ops Q rest (a.put o.dst (.slice (some ⟨g, 0, none⟩) (n + 1) cap)) w') : wpList Tryd.prog ops Q (o :: rest) a w := by
  obtain ⟨i, hi, hz, hs1, hby⟩ := info_parts info_hashv
  refine wpList_append_lies w hgd s x 30 ho base 57 i (.agg ZARR) 32 32 Tryd.underlying30 hi hz hs1 hby rfl (by decide) v n xs hs hown ⟨b, 0, none⟩ 1 c (CELLS y) hx (by rw [CELLS, List.length_map, hl]) ?_ (CELLS_one y) (by decide) (by simp only [maxLen]; omega) (by omega) hbase w.heap.size rfl h
  intro j u hj
  rw [addr_add, Nat.zero_add, hc.cell, List.getElem?_toArray]
  exact hj
end Go.Proofs.YtmpaifkjlhodpaaDoor

/- Laws of one operation, at a step of a region that draws its order. -/
namespace Go.Proofs.YtmpaifkjlhodpaaDoor
open Go.RowKit
set_option maxRecDepth 100000

theorem wp_both {P : Program} {o : Oper} {a : Act} {w : World} {K K' : Act → World → Prop} {Q Q' : Exit → Act → World → Prop} (h : ∀ a w, K a w → K' a w) (hq : ∀ c a w, Q (.panic c) a w → Q' (.panic c) a w) (hl : LetsOut Q → LetsOut Q') (hh : o.wp P a w K Q) : o.wp P a w K' Q' := by
  unfold Oper.wp at *
  generalize (execOp a.eval o).run P w = r at *
  cases r with
  | ok n w' =>
    cases n <;> simp only [Oper.upon] at hh ⊢ <;>
      first
        | exact h _ _ hh
        | exact Calls.mono hh (fun e w'' he => by cases e <;> first | exact h _ _ he | exact hq _ _ _ he | exact hl he)
        | exact Rows.mono hh (fun _ _ he => h _ _ he)
  | halt x w' => cases x <;> simp only [Oper.upon] at hh ⊢ <;> first | exact hq _ _ _ hh | exact hh
/-- a law of one operation in a row serves at a step. -/
theorem step_of_list {P : Program} {ops : Array Oper} {o : Oper} {a : Act} {w : World} {K : Act → World → Prop} {Q : Exit → Act → World → Prop} {E : Prop} (hw : Region.wanted o (yielded ops a.tmps) = true)
    (h : wpList P ops (fun e a w => e = Exit.normal ∧ K a w) [o] a w) : if Region.wanted o (yielded ops a.tmps) = true then Oper.wp P o a w K Q else E := by
  rw [if_pos hw]
  unfold wpList at h
  rw [if_pos hw] at h
  rcases h with h | ⟨_, a', w', h', _⟩
  · exact wp_both (fun a w h => by unfold wpList at h; exact h.2) (fun c a w h => by cases h.1) (fun h => by obtain ⟨_, _, h, _⟩ := h; cases h) h
  · cases h'
/-- an operation that gives a value. -/
theorem step_valw {ops : Array Oper} {o : Oper} {a : Act} {w w' : World} {K : Act → World → Prop} {Q : Exit → Act → World → Prop} {E : Prop} {v : Value} (hw : Region.wanted o (yielded ops a.tmps) = true)
    (hrun : (execOp a.eval o).run Tryd.prog w = .ok (.value v) w') (h : K (a.put o.dst v) w') : if Region.wanted o (yielded ops a.tmps) = true then Oper.wp Tryd.prog o a w K Q else E := by
  rw [if_pos hw]
  unfold Oper.wp
  rw [hrun]
  exact h
/-- one element of one cell is appended. -/
theorem step_push {P : Program} {ops : Array Oper} {o : Oper} {a : Act} {K : Act → World → Prop} {Q : Exit → Act → World → Prop} {E : Prop} (w : World) (hgd : o.guard = none) (s x : Operand) (t e : TypeId) (z : Value) (bt : Nat)
    (ho : o.op = .call { callee := .builtin .append, args := #[s, x], argTypes := #[t, t] }) (hu : P.underlying t = some (.slice e)) (hi : (P.info? e).map (fun i => (i.zero, i.size, i.bytes)) = some (some z, 1, bt)) (hz : z.cells.size = 1) (hbt : bt ≤ 1000)
    (base : Nat) (v : Value) (n : Nat) (xs : List Value) (hs : a.eval s = v) (hown : w.ownsRow base e 1 v n xs)
    (b c : Nat) (u : Value) (hx : a.eval x = .slice (some ⟨b, 0, none⟩) 1 c) (hc0 : w.cell? ⟨b, 0, none⟩ = some u) (h1 : u.oneCell' = true) (hb : n ≤ 100000) (hbase : base ≤ w.heap.size)
    (hh : ∀ g cap w', w'.ownsRow base e 1 (.slice (some ⟨g, 0, none⟩) (n + 1) cap) (n + 1) (xs ++ [u]) → w.grownBy w' v.ownBlock → (v.ownBlock = some g ∨ g = w.heap.size) → g < w'.heap.size → K (a.put o.dst (.slice (some ⟨g, 0, none⟩) (n + 1) cap)) w') : if Region.wanted o (yielded ops a.tmps) = true then Oper.wp P o a w K Q else E := by
  obtain ⟨i, hi, h8⟩ := Option.map_eq_some_iff.1 hi
  simp only [Prod.mk.injEq] at h8
  have hbb : (n + 1) * bt ≤ 140737488355328 := Nat.le_trans (Nat.mul_le_mul (Nat.add_le_add_right hb 1) hbt) (by decide)
  refine step_append_lies w hgd s x t ho base e i z 1 bt hu hi h8.1 h8.2.1 h8.2.2 hz (by decide) v n xs hs hown ⟨b, 0, none⟩ 1 c [u] hx rfl ?_ (fun u2 hu => by simp at hu; subst hu; exact h1) (by decide) (by simp only [maxLen]; omega) hbb hbase w.heap.size rfl hh
  intro j u2 hj
  cases j with
  | zero =>
    simp only [List.getElem?_cons_zero, Option.some.injEq] at hj
    subst hj
    exact hc0
  | succ j => simp at hj
end Go.Proofs.YtmpaifkjlhodpaaDoor
