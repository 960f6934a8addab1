/- Texts of FindParts, one behind the other: FindAwake, FindPartsPlain, FindPartsRegion. -/
import Derived.Test.YtlbcnaenhghieaaFindPartsP7
import Derived.Test.YtlbcnaenhghieaaFindPartsP8
/- Three leaves of which two are one. -/
namespace Go.Proofs.Ytlbcnaenhghieaa
open Go.RowKit Go.Maps
set_option maxRecDepth 100000

def HONE : List Int := 1 :: List.replicate 31 0
def HTWO : List Int := 2 :: List.replicate 31 0
/-- the three leaves. -/
def FTHREE : Nat → List Int := fun i => if i = 1 then HTWO else HONE
theorem fthree_is (i : Nat) : FISH (FTHREE i) := by
  unfold FTHREE
  split
  · exact ⟨rfl, by decide⟩
  · exact ⟨rfl, by decide⟩
theorem fthree_at : ATS FTHREE 3 HONE = [0, 2] := by decide
theorem fthree_twice : TWS FTHREE 3 3 = [HONE] := by decide
theorem fthree_unlike : UNL FTHREE 3 = 2 := by decide
theorem aw_at {W : World} {B p : Nat} {v : Value} {m : Option Nat} {h : List Int} (hh : FTHREE 0 = h) (H : FIND W B p v m FTHREE 3) : Calls Try.prog 9 #[.pointer (some ⟨p, 0, none⟩), .agg (CELLS h).toArray] W fun e w' => ∃ gl cl, e = .returned (.slice (some ⟨gl, 0, none⟩) 2 cl) ∧ w'.cell? ⟨gl, 0, none⟩ = some (.int .u64 0) ∧ w'.cell? ⟨gl, 1, none⟩ = some (.int .u64 2) ∧ gl < w'.heap.size ∧ Below W.heap.size W w' := by
  subst hh
  exact (find_at H (by omega) (fthree_is 0)).mono (by
    rintro e w' ⟨a, c, rfl, h1, h2⟩
    rw [show FTHREE 0 = HONE from rfl, fthree_at] at h1 ⊢
    rcases h1.2 with ⟨_, e⟩ | ⟨g, cap, cur, e, _, hg, _⟩
    · cases e
    · cases e
      refine ⟨g, _, rfl, ?_, ?_, (Array.getElem?_eq_some_iff.1 hg).1, h2⟩
      · rw [h1.cellAt 0 (by decide)]; rfl
      · rw [h1.cellAt 1 (by decide)]; rfl)
theorem aw_twice {W : World} {B p : Nat} {v : Value} {m : Option Nat} {h : List Int} (hh : FTHREE 0 = h) (H : FIND W B p v m FTHREE 3) : Calls Try.prog 23 #[.pointer (some ⟨p, 0, none⟩)] W fun e w' => ∃ gt ct, e = .returned (.slice (some ⟨gt, 0, none⟩) 1 ct) ∧ w'.rangeAt gt 0 (CELLS h) ∧ Below W.heap.size W w' := by
  subst hh
  exact (find_twice H (by omega)).mono (by
    rintro e w' ⟨a, c, rfl, h1, h2⟩
    rw [fthree_twice] at h1 ⊢
    rcases h1.2 with ⟨_, e⟩ | ⟨g, cap, cur, e, _, hg, _⟩
    · cases e
    · cases e
      refine ⟨g, _, rfl, fun j u hj => ?_, h2⟩
      have hj2 : j < 32 := by
        have := (List.getElem?_eq_some_iff.1 hj).1
        simpa [CELLS, (fthree_is 0).1] using this
      rw [Nat.zero_add, h1.cellAt j (by simpa using hj2)]
      rw [show FTHREE 0 = HONE from rfl] at hj
      simpa using hj)
theorem aw_add {W : World} {B p n : Nat} {v : Value} {m : Option Nat} {h : List Int} (z : Int) (H : FIND W B p v m FTHREE n) (hn : n < 3) (hh : FTHREE n = h) (hz : (n : Int) = z) : Calls Try.prog 6 #[.pointer (some ⟨p, 0, none⟩), .agg (CELLS h).toArray] W fun e w' => ∃ v' m', e = .returned (.int .u64 z) ∧ FIND w' B p v' m' FTHREE (n + 1) ∧ FSTP W w' p v m v' m' := by
  subst hh hz
  exact find_add H (fthree_is n) (by omega)
/-- what lies there beside the find. -/
theorem FSTP.has {w w' : World} {p k : Nat} {v v' : Value} {m m' : Option Nat} {cs : Array Value} {t : TypeId} (h : FSTP w w' p v m v' m') (hk : Has w k cs t) (hf : ¬ FFT p v m k) : Has w' k cs t := (h.block k hk.lt hf).trans hk
/-- the find and two hashes beside it. -/
structure AWS (w W : World) (p ba n : Nat) (A C : List Int) (v : Value) (m : Option Nat) : Prop where
  find : FIND W p p v m FTHREE n
  one : Has W ba (CELLS A).toArray 30
  two : Has W (ba + 1) (CELLS C).toArray 30
  bel : Below p w W
  foot : ∀ k, FFT p v m k → k = p ∨ ba + 2 ≤ k
  lt : p < ba
theorem AWS.step {w W W' : World} {p ba n n' : Nat} {A C : List Int} {v v' : Value} {m m' : Option Nat} (h : AWS w W p ba n A C v m) (hF : FIND W' p p v' m' FTHREE n') (hS : FSTP W W' p v m v' m') : AWS w W' p ba n' A C v' m' := by
  have hl := h.lt
  have h2 := h.two.lt
  refine ⟨hF, hS.has h.one fun e => ?_, hS.has h.two fun e => ?_, ⟨hS.os.trans h.bel.os, hS.tape.trans h.bel.tape, hS.output.trans h.bel.output, Nat.le_trans h.bel.size hS.size, fun k hk => ?_⟩, fun k e => ?_, hl⟩
  · rcases h.foot _ e with c | c <;> omega
  · rcases h.foot _ e with c | c <;> omega
  · exact (hS.block k (by have := h.find.box.lt; omega) (fun e => by have := (h.find.lt k e).1; omega)).trans (h.bel.block k hk)
  · rcases hS.foot k e with c | c
    · exact h.foot k c
    · exact .inr (by omega)
theorem AWS.keep {w W W' : World} {p ba n : Nat} {A C : List Int} {v : Value} {m : Option Nat} (h : AWS w W p ba n A C v m) (hb : Below W.heap.size W W') : AWS w W' p ba n A C v m := h.step (h.find.keep hb) (FSTP.of_below hb)
theorem load_mid_if22 {ops : Array Oper} {rest : List Oper} {o : Oper} {a : Act} {w : World} {Q : Exit → Act → World → Prop} (hw : Region.wanted o (yielded ops a.tmps) = true) (ty : TypeId) (x : Operand) (ho : o.op = .load ty x)
    (b off : Nat) (hx : a.eval x = .pointer (some ⟨b, off, none⟩)) (cs : List Value) (d : TypeDesc) (hc : w.rangeAt b off cs) (hu : Try.prog.underlying ty = some d) (hd : d.isRow = true) (hi : (Try.prog.info? ty).map (·.size) = some cs.length)
    (h : wpList Try.prog ops Q rest (a.put o.dst (.agg cs.toArray)) w) : wpList Try.prog ops Q (o :: rest) a w := by
  simp only [wpList]
  rw [if_pos hw]
  exact .inl (wp_load_mid ty x ho b off hx cs d hc hu hd hi h)
/-- a hash of one byte is built. -/
theorem build_byte {ops : Array Oper} {rest : List Oper} {o : Oper} {a : Act} {w : World} {Q : Exit → Act → World → Prop} (hg : o.guard = none) {x : Operand} {z : Int} {h : List Int} (ho : o.op = .build 30 #[(0, x)]) (hx : a.eval x = .int .u8 z) (hb : Try.prog.built 30 [(0, .int .u8 z)] = some (CELLS h).toArray)
    (hh : wpList Try.prog ops Q rest (a.put o.dst (.agg (CELLS h).toArray)) w) : wpList Try.prog ops Q (o :: rest) a w := by
  have e : Try.prog.built 30 ((#[(0, x)] : Array (Nat × Operand)).map fun (i, x) => (i, a.eval x)).toList = some (CELLS h).toArray := by
    simp only [List.map_toArray, List.map_cons, List.map_nil, hx]
    exact hb
  refine wpList_build hg 30 _ ho (by rw [e]; rfl) ?_
  rw [e]
  exact hh
set_option maxHeartbeats 4000000 in
theorem awake22_ok (w : World) : Calls Try.prog 16 #[] w fun e w' => e = .returned (.bool true) ∧ Below w.heap.size w w' := by
  have hn := find_new FTHREE w
  have hb1 : Try.prog.built 30 [(0, .int .u8 1)] = some (CELLS HONE).toArray := by kernel_rfl
  have hb2 : Try.prog.built 30 [(0, .int .u8 2)] = some (CELLS HTWO).toArray := by kernel_rfl
  have hz := zeroHashF
  go_enter Try.func16, Try.ntmps16
  go_wp2_with fail
  refine hn.mono ?_
  rintro e w1 ⟨rfl, F1, bl1⟩
  clear hn
  obtain ⟨p, hp⟩ : ∃ p, w.heap.size = p := ⟨_, rfl⟩
  have HP : Aside (w.heap.size = p) := hp
  rw [hp] at F1 ⊢
  obtain ⟨ba, hba⟩ : ∃ b, w1.heap.size = b := ⟨_, rfl⟩
  have hpa : p < ba := by have := F1.box.lt; omega
  obtain ⟨wa, hwa⟩ : ∃ wa, (w1.alloc (.cells ZARR 30)).alloc (.cells ZARR 30) = wa := ⟨_, rfl⟩
  have ka : Has wa ba (CELLS ZND).toArray 30 := by rw [← hwa, ← hba]; exact (Has.new _ _ _).alloc _
  have kb : Has wa (ba + 1) (CELLS ZND).toArray 30 := by rw [← hwa]; exact Has.at _ _ _ (by simp [hba])
  have s1 := store_cellsF ka (y := HONE) rfl rfl
  have ka2 : Has (wa.setRow ba (CELLS HONE).toArray) ba (CELLS HONE).toArray 30 := ka.row _
  have kb2 : Has (wa.setRow ba (CELLS HONE).toArray) (ba + 1) (CELLS ZND).toArray 30 := kb.row_other (by omega) _
  have s2 := store_cellsF kb2 (y := HTWO) rfl rfl
  obtain ⟨w2, hw2⟩ : ∃ w2, (wa.setRow ba (CELLS HONE).toArray).setRow (ba + 1) (CELLS HTWO).toArray = w2 := ⟨_, rfl⟩
  have ka3 : Has w2 ba (CELLS HONE).toArray 30 := by rw [← hw2]; exact ka2.row_other (by omega) _
  have kb3 : Has w2 (ba + 1) (CELLS HTWO).toArray 30 := by rw [← hw2]; exact kb2.row _
  rw [hw2] at s2
  have bl2 : Below ba w1 w2 := by
    rw [← hw2, ← hwa]
    exact setrow_below (setrow_below (((Below.refl _ _).alloc (by omega) _).alloc (by simp; omega) _) (by omega)) (by omega)
  have F2 : FIND w2 p p (.slice none 0 0) none FTHREE 0 := F1.keep (by rw [hba]; exact bl2)
  have L1 : Aside (HONE.length = 32 ∧ HTWO.length = 32) := ⟨rfl, rfl⟩
  have HB : Aside (Below p w w2) := by
    have := bl1.trans (bl2.mono (by omega))
    rwa [hp] at this
  have q1 : (CELLS HONE).length = 32 := rfl
  have q2 : (CELLS HTWO).length = 32 := rfl
  have e1 : FTHREE 0 = HONE := rfl
  have e2 : FTHREE 1 = HTWO := rfl
  have e3 : FTHREE 2 = HONE := rfl
  have hN : Aside (∀ k, ¬ FFT p (.slice none 0 0) none k ∨ k = p) := fun k => by
    by_cases c : k = p
    · exact .inr c
    · exact .inl (by rintro (e | e | e) <;> first | exact c e | cases e)
  clear ka kb ka2 kb2 F1 bl1 bl2 hp
  generalize HONE = A at *
  generalize HTWO = C at *
  generalize ZARR = Z at *
  go_wp2_with (first
    | (refine build_byte rfl rfl rfl hb1 ?_)
    | (refine build_byte rfl rfl rfl hb2 ?_)
    | (refine wpList_load_row rfl 30 (.tmp 2) rfl ba rfl 30 (CELLS A).toArray (0, 0) _ ka3 Try.underlying30 rfl (info_arr L1.out.1) ?_)
    | fail)
  have S0 : AWS w w2 p ba 0 A C (.slice none 0 0) none := ⟨F2, ka3, kb3, HB.out, fun k h => (by rcases h with e | e | e <;> first | exact .inl e | cases e), hpa⟩
  have c0 := aw_add 0 S0.find (by omega) e1 rfl
  clear F2 HB hN s1 s2 hw2 hwa hba ka3 kb3 hz hb1 hb2 q1 q2
  refine c0.mono ?_
  rintro e w3 ⟨v3, m3, rfl, F3, T3⟩
  have S3 := S0.step F3 T3
  have r3 := S3.two
  have c3 := aw_add 1 S3.find (by omega) e2 rfl
  clear c0 S0 F3 T3 hpa
  go_wp2_with (first
    | (refine load_mid_if22 (by rfl) 30 (.tmp 3) rfl (ba + 1) 0 rfl (CELLS C) _ (has_rangef r3) Try.underlying30 rfl (info_cells L1.out.2) ?_)
    | fail)
  refine c3.mono ?_
  rintro e w4 ⟨v4, m4, rfl, F4, T4⟩
  have S4 := S3.step F4 T4
  have r4 := S4.one
  have c4 := aw_add 2 S4.find (by omega) e3 rfl
  clear c3 S3 F4 T4 r3
  go_wp2_with (first
    | (refine load_mid_if22 (by rfl) 30 (.tmp 2) rfl ba 0 rfl (CELLS A) _ (has_rangef r4) Try.underlying30 rfl (info_cells L1.out.1) ?_)
    | fail)
  refine c4.mono ?_
  rintro e w5 ⟨v5, m5, rfl, F5, T5⟩
  have S5 := S4.step F5 T5
  have r5 := S5.one
  have c5 := aw_at e1 S5.find
  clear c4 S4 F5 T5 r4
  go_wp2_with (first
    | (refine wpList_load_row rfl 30 (.tmp 2) rfl ba rfl 30 (CELLS A).toArray (0, 0) _ r5 Try.underlying30 rfl (info_arr L1.out.1) ?_)
    | fail)
  refine c5.mono ?_
  rintro e w6 ⟨gl, cl, rfl, x0, x1, hgl, bl6⟩
  have S6 := S5.keep bl6
  have c6 := aw_twice e1 S6.find
  clear c5 S5 bl6 r5
  go_wp2_with fail
  refine c6.mono ?_
  rintro e w7 ⟨gt, ct, rfl, xr, bl7⟩
  have S7 := S6.keep bl7
  have y0 : w7.cell? ⟨gl, 0, none⟩ = some (.int .u64 0) := (bl7.cell (p := ⟨gl, 0, none⟩) hgl).trans x0
  have y1 : w7.cell? ⟨gl, 1, none⟩ = some (.int .u64 2) := (bl7.cell (p := ⟨gl, 1, none⟩) hgl).trans x1
  clear c6 S6 bl7 x0 x1 hgl
  go_upto_region 8 with fail
  refine fawake8 w7 p ba gl cl gt ct A L1.out.1 (fun W => W = w7.drew) rfl ?_ ?_ ?_ (fun _ _ _ _ _ h => h) ?_
  · rintro W rfl
    exact ⟨y0, y1, xr, has_rangef S7.one⟩
  · rintro W rfl
    have h := find_unlike (S7.keep ((Below.refl _ _).drew)).find
    rw [fthree_unlike] at h
    exact h.mono (by rintro e w' ⟨rfl, rfl⟩; exact ⟨rfl, rfl⟩)
  · rintro W rfl
    exact (find_size (S7.keep ((Below.refl _ _).drew)).find (by omega)).mono (by rintro e w' ⟨rfl, rfl⟩; exact ⟨rfl, rfl⟩)
  · rintro W rfl
    have Z : Aside (Below w.heap.size w w7.drew) := by
      have := S7.bel.drew
      rw [← HP.out] at this
      exact this
    clear S7 y0 y1 xr
    go_wp2
    go_ret
    exact ⟨rfl, Z.out⟩
end Go.Proofs.Ytlbcnaenhghieaa

/- How often each index has been met. -/
namespace Go.Proofs.Ytlbcnaenhghieaa
set_option maxRecDepth 100000

theorem ATS_rises (f : Nat → List Int) (h : List Int) : ∀ n, (ATS f n h).Pairwise (· < ·)
  | 0 => List.Pairwise.nil
  | n + 1 => by
    rw [ATS]
    split
    · rw [List.pairwise_append]
      refine ⟨ATS_rises f h n, List.pairwise_singleton _ _, fun x hx y hy => ?_⟩
      rw [List.mem_singleton] at hy
      subst hy
      exact (ATS_mem.1 hx).1
    · rw [List.append_nil]
      exact ATS_rises f h n
/-- how often j has been met: the hashes that stand first below i, and the first k indices of the i-th. -/
def MET (f : Nat → List Int) (n i k j : Nat) : Nat := if LSTI f i (f j) ≠ -1 then 1 else if j ∈ (ATS f n (f i)).take k then 1 else 0
theorem MET_zero (f : Nat → List Int) (n j : Nat) : MET f n 0 0 j = 0 := by simp [MET, LSTI]
theorem LSTI_next (f : Nat → List Int) (i : Nat) (h : List Int) : LSTI f (i + 1) h ≠ -1 ↔ f i = h ∨ LSTI f i h ≠ -1 := by
  rw [LSTI]
  by_cases e : f i = h
  · rw [if_pos e]
    exact ⟨fun _ => .inl e, fun _ => by omega⟩
  · rw [if_neg e]
    exact ⟨.inr, fun c => c.resolve_left e⟩
theorem MET_skip {f : Nat → List Int} {n i j : Nat} (h : LSTI f i (f i) ≠ -1) : MET f n i 0 j = MET f n (i + 1) 0 j := by
  unfold MET
  simp only [List.take_zero, List.not_mem_nil, if_false]
  by_cases e : f i = f j
  · rw [if_pos (by rw [← e]; exact h), if_pos ((LSTI_next f i (f j)).2 (.inl e))]
  · by_cases c : LSTI f i (f j) ≠ -1
    · rw [if_pos c, if_pos ((LSTI_next f i (f j)).2 (.inr c))]
    · rw [if_neg c, if_neg (fun x => ((LSTI_next f i (f j)).1 x).elim e c)]
theorem MET_end {f : Nat → List Int} {n i j : Nat} (hj : j < n) : MET f n i (ATS f n (f i)).length j = MET f n (i + 1) 0 j := by
  unfold MET
  rw [List.take_length]
  simp only [List.take_zero, List.not_mem_nil, if_false]
  by_cases c : LSTI f i (f j) ≠ -1
  · rw [if_pos c, if_pos ((LSTI_next f i (f j)).2 (.inr c))]
  · rw [if_neg c]
    by_cases e : f i = f j
    · rw [if_pos (ATS_mem.2 ⟨hj, e.symm⟩), if_pos ((LSTI_next f i (f j)).2 (.inl e))]
    · rw [if_neg (fun x => e (ATS_mem.1 x).2.symm), if_neg (fun x => ((LSTI_next f i (f j)).1 x).elim e c)]
theorem MET_hit {f : Nat → List Int} {n i k x : Nat} (h : LSTI f i (f i) = -1) (hx : (ATS f n (f i))[k]? = some x) : MET f n i k x = 0 ∧ MET f n i (k + 1) x = 1 := by
  obtain ⟨hk, hx'⟩ := List.getElem?_eq_some_iff.1 hx
  have e : f x = f i := (ATS_mem.1 (List.mem_of_getElem? hx)).2
  have hn : ¬ LSTI f i (f i) ≠ -1 := by simpa using h
  have nm : x ∉ (ATS f n (f i)).take k := fun hm => by
    obtain ⟨j, hj, hjx⟩ := List.mem_take_iff_getElem.1 hm
    have := List.pairwise_iff_getElem.1 (ATS_rises f (f i) n) j k (by omega) hk (by omega)
    omega
  have ym : x ∈ (ATS f n (f i)).take (k + 1) := by
    rw [List.take_add_one, hx]
    simp
  constructor
  · unfold MET
    rw [e, if_neg hn, if_neg nm]
  · unfold MET
    rw [e, if_neg hn, if_pos ym]
theorem MET_miss {f : Nat → List Int} {n i k x j : Nat} (hx : (ATS f n (f i))[k]? = some x) (hj : j ≠ x) : MET f n i (k + 1) j = MET f n i k j := by
  unfold MET
  rw [List.take_add_one, hx]
  simp [hj]
theorem MET_all {f : Nat → List Int} {n j : Nat} (hj : j < n) : MET f n n 0 j = 1 := by
  unfold MET
  rw [if_pos]
  intro e
  exact LSTI_none.1 e j hj rfl
end Go.Proofs.Ytlbcnaenhghieaa

/- The region of FindParts that draws its order. -/
namespace Go.Proofs.Ytlbcnaenhghieaa
open Go.RowKit
set_option maxRecDepth 100000

def FP23OPS : Array Oper := #[{ dst := some 66, op := Op.move (Operand.tmp 10), type := 36, pos := "law.go:192", after := #[], guard := none }, { dst := some 67, op := Op.move (Operand.tmp 11), type := 3, pos := "law.go:192", after := #[], guard := none }, { dst := some 68, op := Op.indexAddr 36 (Operand.tmp 66) (Operand.tmp 67), type := 0, pos := "law.go:192", after := #[{ on := 0, ground := Ground.data }, { on := 1, ground := Ground.data }], guard := none }, { dst := some 69, op := Op.load 31 (Operand.tmp 68), type := 31, pos := "law.go:192", after := #[{ on := 2, ground := Ground.data }], guard := none }, { dst := some 70, op := Op.move (Operand.tmp 0), type := 26, pos := "law.go:192", after := #[], guard := none }, { dst := some 71, op := Op.call { callee := Callee.builtin Builtin.len, args := #[Operand.tmp 70], argTypes := #[26] }, type := 3, pos := "law.go:192", after := #[{ on := 4, ground := Ground.data }], guard := none }, { dst := some 72, op := Op.convert 3 31 (Operand.tmp 71), type := 31, pos := "law.go:192", after := #[{ on := 5, ground := Ground.data }], guard := none }, { dst := some 73, op := Op.binOp BinOp.geq 31 (Operand.tmp 69) (Operand.tmp 72) 31, type := 4, pos := "law.go:192", after := #[{ on := 3, ground := Ground.data }, { on := 6, ground := Ground.data }], guard := none }, { dst := some 74, op := Op.move (Operand.tmp 73), type := 4, pos := "law.go:192", after := #[{ on := 7, ground := Ground.data }], guard := none }, { dst := some 75, op := Op.move (Operand.tmp 0), type := 26, pos := "law.go:192", after := #[{ on := 8, ground := Ground.guard }], guard := some (8, false) }, { dst := some 76, op := Op.move (Operand.tmp 10), type := 36, pos := "law.go:192", after := #[{ on := 8, ground := Ground.guard }], guard := some (8, false) }, { dst := some 77, op := Op.move (Operand.tmp 11), type := 3, pos := "law.go:192", after := #[{ on := 8, ground := Ground.guard }], guard := some (8, false) }, { dst := some 78, op := Op.indexAddr 36 (Operand.tmp 76) (Operand.tmp 77), type := 0, pos := "law.go:192", after := #[{ on := 10, ground := Ground.data }, { on := 11, ground := Ground.data }, { on := 8, ground := Ground.guard }], guard := some (8, false) }, { dst := some 79, op := Op.load 31 (Operand.tmp 78), type := 31, pos := "law.go:192", after := #[{ on := 12, ground := Ground.data }, { on := 8, ground := Ground.guard }], guard := some (8, false) }, { dst := some 80, op := Op.indexAddr 26 (Operand.tmp 75) (Operand.tmp 79), type := 0, pos := "law.go:192", after := #[{ on := 9, ground := Ground.data }, { on := 13, ground := Ground.data }, { on := 8, ground := Ground.guard }], guard := some (8, false) }, { dst := some 81, op := Op.load 30 (Operand.tmp 80), type := 30, pos := "law.go:192", after := #[{ on := 14, ground := Ground.data }, { on := 8, ground := Ground.guard }], guard := some (8, false) }, { dst := some 82, op := Op.move (Operand.tmp 0), type := 26, pos := "law.go:192", after := #[{ on := 8, ground := Ground.guard }], guard := some (8, false) }, { dst := some 83, op := Op.move (Operand.tmp 9), type := 3, pos := "law.go:192", after := #[{ on := 8, ground := Ground.guard }], guard := some (8, false) }, { dst := some 84, op := Op.indexAddr 26 (Operand.tmp 82) (Operand.tmp 83), type := 0, pos := "law.go:192", after := #[{ on := 16, ground := Ground.data }, { on := 17, ground := Ground.data }, { on := 8, ground := Ground.guard }], guard := some (8, false) }, { dst := some 85, op := Op.load 30 (Operand.tmp 84), type := 30, pos := "law.go:192", after := #[{ on := 18, ground := Ground.data }, { on := 8, ground := Ground.guard }], guard := some (8, false) }, { dst := some 86, op := Op.binOp BinOp.neq 30 (Operand.tmp 81) (Operand.tmp 85) 30, type := 4, pos := "law.go:192", after := #[{ on := 15, ground := Ground.data }, { on := 19, ground := Ground.data }, { on := 8, ground := Ground.guard }], guard := some (8, false) }, { dst := some 87, op := Op.pick (Operand.tmp 74) (Operand.const (Value.bool true)) (Operand.tmp 86), type := 4, pos := "law.go:192", after := #[{ on := 8, ground := Ground.data }, { on := 20, ground := Ground.data }], guard := none }]
set_option maxHeartbeats 2000000 in
theorem fparts23 {Q : Exit → Act → World → Prop} {u1 u2 u3 u4 u5 u6 u7 u8 u12 u13 u14 u15 u16 u17 u18 u19 u20 u21 u22 u23 u24 u25 u26 u27 u28 u29 u30 u31 u32 u33 u34 u35 u36 u37 u38 u39 u40 u41 u42 u43 u44 u45 u46 u47 u48 u49 u50 u51 u52 u53 u54 u55 u56 u57 u58 u59 u60 u61 u62 u63 u64 u65 u66 u67 u68 u69 u70 u71 u72 u73 u74 u75 u76 u77 u78 u79 u80 u81 u82 u83 u84 u85 u86 u87 u88 u89 u90 u91 u92 u93 u94 u95 u96 u97 u98 u99 u100 u101 u102 u103 u104 u105 u106 u107 u108 u109 u110 u111 u112 u113 u114 u115 u116 u117 u118 u119 u120 u121 u122 u123 u124 u125 u126 u127 u128 u129 u130 u131 u132 u133 u134 u135 u136 u137 u138 u139 u140 u141 u142 u143 u144 u145 u146 u147 u148 u149 u150 u151 u152 u153 u154 u155 u156 u157 u158 u159 u160 u161 u162 u163 u164 u165 u166 u167 u168 u169 u170 u171 u172 u173 u174 : Value} (W : World) (gl ol n c ga kn kc i k x : Nat) (E : List Int) (lE : E.length = 32) (hk : (k : Int) < (kn : Int)) (hi : (i : Int) < (n : Int)) (hx : (x : Int) < (n : Int)) (hxn : ¬ (n : Int) ≤ (x : Int)) (hn : IntKind.u64.wrap (n : Int) = (n : Int)) (J : World → Prop) (h0 : J W.drew) (hS : ∀ w, J w → (fun w : World => w.cell? ⟨ga, k, none⟩ = some (.int .u64 (x : Int)) ∧ w.rangeAt gl (ol + x * 32) (CELLS E) ∧ w.rangeAt gl (ol + i * 32) (CELLS E)) w) (hQ : ∀ c (a : Act) (t : Tmp) (v : Value) w, Q (.panic c) (a.put (some t) v) w → Q (.panic c) a w)
    (hfin : ∀ (w : World), (J w) → Q .normal { tmps := #[.slice (some ⟨gl, ol, none⟩) n c, u1, u2, u3, u4, u5, u6, u7, u8, .int .i64 (i : Int), .slice (some ⟨ga, 0, none⟩) kn kc, .int .i64 (k : Int), u12, u13, u14, u15, u16, u17, u18, u19, u20, u21, u22, u23, u24, u25, u26, u27, u28, u29, u30, u31, u32, u33, u34, u35, u36, u37, u38, u39, u40, u41, u42, u43, u44, u45, u46, u47, u48, u49, u50, u51, u52, u53, u54, u55, u56, u57, u58, u59, u60, u61, u62, u63, u64, u65, .slice (some ⟨ga, 0, none⟩) kn kc, .int .i64 (k : Int), .pointer (some ⟨ga, k, none⟩), .int .u64 (x : Int), .slice (some ⟨gl, ol, none⟩) n c, .int .i64 (n : Int), .int .u64 (n : Int), .bool false, .bool false, .slice (some ⟨gl, ol, none⟩) n c, .slice (some ⟨ga, 0, none⟩) kn kc, .int .i64 (k : Int), .pointer (some ⟨ga, k, none⟩), .int .u64 (x : Int), .pointer (some ⟨gl, (ol + x * 32), none⟩), .agg (CELLS E).toArray, .slice (some ⟨gl, ol, none⟩) n c, .int .i64 (i : Int), .pointer (some ⟨gl, (ol + i * 32), none⟩), .agg (CELLS E).toArray, .bool false, .bool false, u88, u89, u90, u91, u92, u93, u94, u95, u96, u97, u98, u99, u100, u101, u102, u103, u104, u105, u106, u107, u108, u109, u110, u111, u112, u113, u114, u115, u116, u117, u118, u119, u120, u121, u122, u123, u124, u125, u126, u127, u128, u129, u130, u131, u132, u133, u134, u135, u136, u137, u138, u139, u140, u141, u142, u143, u144, u145, u146, u147, u148, u149, u150, u151, u152, u153, u154, u155, u156, u157, u158, u159, u160, u161, u162, u163, u164, u165, u166, u167, u168, u169, u170, u171, u172, u173, u174], defers := [] } w) : (Code.region 23 FP23OPS true).wp Try.prog Q { tmps := #[.slice (some ⟨gl, ol, none⟩) n c, u1, u2, u3, u4, u5, u6, u7, u8, .int .i64 (i : Int), .slice (some ⟨ga, 0, none⟩) kn kc, .int .i64 (k : Int), u12, u13, u14, u15, u16, u17, u18, u19, u20, u21, u22, u23, u24, u25, u26, u27, u28, u29, u30, u31, u32, u33, u34, u35, u36, u37, u38, u39, u40, u41, u42, u43, u44, u45, u46, u47, u48, u49, u50, u51, u52, u53, u54, u55, u56, u57, u58, u59, u60, u61, u62, u63, u64, u65, u66, u67, u68, u69, u70, u71, u72, u73, u74, u75, u76, u77, u78, u79, u80, u81, u82, u83, u84, u85, u86, u87, u88, u89, u90, u91, u92, u93, u94, u95, u96, u97, u98, u99, u100, u101, u102, u103, u104, u105, u106, u107, u108, u109, u110, u111, u112, u113, u114, u115, u116, u117, u118, u119, u120, u121, u122, u123, u124, u125, u126, u127, u128, u129, u130, u131, u132, u133, u134, u135, u136, u137, u138, u139, u140, u141, u142, u143, u144, u145, u146, u147, u148, u149, u150, u151, u152, u153, u154, u155, u156, u157, u158, u159, u160, u161, u162, u163, u164, u165, u166, u167, u168, u169, u170, u171, u172, u173, u174], defers := [] } W := by
  have kst : ∀ (w : World), (J w) → wpAnyH Try.prog .any FP23OPS Q (fun w : World => w.cell? ⟨ga, k, none⟩ = some (.int .u64 (x : Int)) ∧ w.rangeAt gl (ol + x * 32) (CELLS E) ∧ w.rangeAt gl (ol + i * 32) (CELLS E)) 0 #[true, true, true, true, true, true, true, true, true, true, true, true, true, true, true, true, true, true, true, true, true, true] { tmps := #[.slice (some ⟨gl, ol, none⟩) n c, u1, u2, u3, u4, u5, u6, u7, u8, .int .i64 (i : Int), .slice (some ⟨ga, 0, none⟩) kn kc, .int .i64 (k : Int), u12, u13, u14, u15, u16, u17, u18, u19, u20, u21, u22, u23, u24, u25, u26, u27, u28, u29, u30, u31, u32, u33, u34, u35, u36, u37, u38, u39, u40, u41, u42, u43, u44, u45, u46, u47, u48, u49, u50, u51, u52, u53, u54, u55, u56, u57, u58, u59, u60, u61, u62, u63, u64, u65, .slice (some ⟨ga, 0, none⟩) kn kc, .int .i64 (k : Int), .pointer (some ⟨ga, k, none⟩), .int .u64 (x : Int), .slice (some ⟨gl, ol, none⟩) n c, .int .i64 (n : Int), .int .u64 (n : Int), .bool false, .bool false, .slice (some ⟨gl, ol, none⟩) n c, .slice (some ⟨ga, 0, none⟩) kn kc, .int .i64 (k : Int), .pointer (some ⟨ga, k, none⟩), .int .u64 (x : Int), .pointer (some ⟨gl, (ol + x * 32), none⟩), .agg (CELLS E).toArray, .slice (some ⟨gl, ol, none⟩) n c, .int .i64 (i : Int), .pointer (some ⟨gl, (ol + i * 32), none⟩), .agg (CELLS E).toArray, .bool false, .bool false, u88, u89, u90, u91, u92, u93, u94, u95, u96, u97, u98, u99, u100, u101, u102, u103, u104, u105, u106, u107, u108, u109, u110, u111, u112, u113, u114, u115, u116, u117, u118, u119, u120, u121, u122, u123, u124, u125, u126, u127, u128, u129, u130, u131, u132, u133, u134, u135, u136, u137, u138, u139, u140, u141, u142, u143, u144, u145, u146, u147, u148, u149, u150, u151, u152, u153, u154, u155, u156, u157, u158, u159, u160, u161, u162, u163, u164, u165, u166, u167, u168, u169, u170, u171, u172, u173, u174], defers := [] } w := fun  w hp => by
    exact wpAnyH_done (by kernel_rfl) (hfin  w hp) _
  have hp := h0
  have hww : (fun w : World => w.cell? ⟨ga, k, none⟩ = some (.int .u64 (x : Int)) ∧ w.rangeAt gl (ol + x * 32) (CELLS E) ∧ w.rangeAt gl (ol + i * 32) (CELLS E)) W.drew := hS _ hp
  have last := kst W.drew hp
  have z : wpAnyH Try.prog .any FP23OPS Q (fun w : World => w.cell? ⟨ga, k, none⟩ = some (.int .u64 (x : Int)) ∧ w.rangeAt gl (ol + x * 32) (CELLS E) ∧ w.rangeAt gl (ol + i * 32) (CELLS E)) 22 #[false, false, false, false, false, false, false, false, false, false, false, false, false, false, false, false, false, false, false, false, false, false] { tmps := #[.slice (some ⟨gl, ol, none⟩) n c, u1, u2, u3, u4, u5, u6, u7, u8, .int .i64 (i : Int), .slice (some ⟨ga, 0, none⟩) kn kc, .int .i64 (k : Int), u12, u13, u14, u15, u16, u17, u18, u19, u20, u21, u22, u23, u24, u25, u26, u27, u28, u29, u30, u31, u32, u33, u34, u35, u36, u37, u38, u39, u40, u41, u42, u43, u44, u45, u46, u47, u48, u49, u50, u51, u52, u53, u54, u55, u56, u57, u58, u59, u60, u61, u62, u63, u64, u65, u66, u67, u68, u69, u70, u71, u72, u73, u74, u75, u76, u77, u78, u79, u80, u81, u82, u83, u84, u85, u86, u87, u88, u89, u90, u91, u92, u93, u94, u95, u96, u97, u98, u99, u100, u101, u102, u103, u104, u105, u106, u107, u108, u109, u110, u111, u112, u113, u114, u115, u116, u117, u118, u119, u120, u121, u122, u123, u124, u125, u126, u127, u128, u129, u130, u131, u132, u133, u134, u135, u136, u137, u138, u139, u140, u141, u142, u143, u144, u145, u146, u147, u148, u149, u150, u151, u152, u153, u154, u155, u156, u157, u158, u159, u160, u161, u162, u163, u164, u165, u166, u167, u168, u169, u170, u171, u172, u173, u174], defers := [] } W.drew := by
    refine wpAnyH_take (i := 0) (oi := { dst := some 66, op := Op.move (Operand.tmp 10), type := 36, pos := "law.go:192", after := #[], guard := none }) (v := .slice (some ⟨ga, 0, none⟩) kn kc) rfl (by kernel_rfl) (by kernel_rfl) (by kernel_rfl) (fun _ _ _ h => hQ _ _ _ _ _ h) (Yields.yieldsIf (Or.inl ⟨by rfl, fun W => by go_simp⟩)) hww ?_
    simp only [Act.put, List.setIfInBounds_toArray, List.set_cons_zero, List.set_cons_succ]
    refine wpAnyH_take (i := 1) (oi := { dst := some 67, op := Op.move (Operand.tmp 11), type := 3, pos := "law.go:192", after := #[], guard := none }) (v := .int .i64 (k : Int)) rfl (by kernel_rfl) (by kernel_rfl) (by kernel_rfl) (fun _ _ _ h => hQ _ _ _ _ _ h) (Yields.yieldsIf (Or.inl ⟨by rfl, fun W => by go_simp⟩)) hww ?_
    simp only [Act.put, List.setIfInBounds_toArray, List.set_cons_zero, List.set_cons_succ]
    refine wpAnyH_take (i := 2) (oi := { dst := some 68, op := Op.indexAddr 36 (Operand.tmp 66) (Operand.tmp 67), type := 0, pos := "law.go:192", after := #[{ on := 0, ground := Ground.data }, { on := 1, ground := Ground.data }], guard := none }) (v := .pointer (some ⟨ga, k, none⟩)) rfl (by kernel_rfl) (by kernel_rfl) (by kernel_rfl) (fun _ _ _ h => hQ _ _ _ _ _ h) (Yields.yieldsIf (Or.inl ⟨by rfl, fun W => by go_simp⟩)) hww ?_
    simp only [Act.put, List.setIfInBounds_toArray, List.set_cons_zero, List.set_cons_succ]
    refine wpAnyH_take (i := 3) (oi := { dst := some 69, op := Op.load 31 (Operand.tmp 68), type := 31, pos := "law.go:192", after := #[{ on := 2, ground := Ground.data }], guard := none }) (v := .int .u64 (x : Int)) rfl (by kernel_rfl) (by kernel_rfl) (by kernel_rfl) (fun _ _ _ h => hQ _ _ _ _ _ h) (Or.inl ⟨by rfl, fun w hw => by have hx := hw.1; go_simp⟩) hww ?_
    simp only [Act.put, List.setIfInBounds_toArray, List.set_cons_zero, List.set_cons_succ]
    refine wpAnyH_take (i := 4) (oi := { dst := some 70, op := Op.move (Operand.tmp 0), type := 26, pos := "law.go:192", after := #[], guard := none }) (v := .slice (some ⟨gl, ol, none⟩) n c) rfl (by kernel_rfl) (by kernel_rfl) (by kernel_rfl) (fun _ _ _ h => hQ _ _ _ _ _ h) (Yields.yieldsIf (Or.inl ⟨by rfl, fun W => by go_simp⟩)) hww ?_
    simp only [Act.put, List.setIfInBounds_toArray, List.set_cons_zero, List.set_cons_succ]
    refine wpAnyH_take (i := 5) (oi := { dst := some 71, op := Op.call { callee := Callee.builtin Builtin.len, args := #[Operand.tmp 70], argTypes := #[26] }, type := 3, pos := "law.go:192", after := #[{ on := 4, ground := Ground.data }], guard := none }) (v := .int .i64 (n : Int)) rfl (by kernel_rfl) (by kernel_rfl) (by kernel_rfl) (fun _ _ _ h => hQ _ _ _ _ _ h) (Yields.yieldsIf (Or.inl ⟨by rfl, fun W => by go_simp⟩)) hww ?_
    simp only [Act.put, List.setIfInBounds_toArray, List.set_cons_zero, List.set_cons_succ]
    refine wpAnyH_take (i := 6) (oi := { dst := some 72, op := Op.convert 3 31 (Operand.tmp 71), type := 31, pos := "law.go:192", after := #[{ on := 5, ground := Ground.data }], guard := none }) (v := .int .u64 (n : Int)) rfl (by kernel_rfl) (by kernel_rfl) (by kernel_rfl) (fun _ _ _ h => hQ _ _ _ _ _ h) (Or.inl ⟨by rfl, fun w hw => by have hx := hn; go_simp⟩) hww ?_
    simp only [Act.put, List.setIfInBounds_toArray, List.set_cons_zero, List.set_cons_succ]
    refine wpAnyH_take (i := 7) (oi := { dst := some 73, op := Op.binOp BinOp.geq 31 (Operand.tmp 69) (Operand.tmp 72) 31, type := 4, pos := "law.go:192", after := #[{ on := 3, ground := Ground.data }, { on := 6, ground := Ground.data }], guard := none }) (v := .bool false) rfl (by kernel_rfl) (by kernel_rfl) (by kernel_rfl) (fun _ _ _ h => hQ _ _ _ _ _ h) (Or.inl ⟨by rfl, fun w hw => by have hx := hxn; go_simp⟩) hww ?_
    simp only [Act.put, List.setIfInBounds_toArray, List.set_cons_zero, List.set_cons_succ]
    refine wpAnyH_take (i := 8) (oi := { dst := some 74, op := Op.move (Operand.tmp 73), type := 4, pos := "law.go:192", after := #[{ on := 7, ground := Ground.data }], guard := none }) (v := .bool false) rfl (by kernel_rfl) (by kernel_rfl) (by kernel_rfl) (fun _ _ _ h => hQ _ _ _ _ _ h) (Yields.yieldsIf (Or.inl ⟨by rfl, fun W => by go_simp⟩)) hww ?_
    simp only [Act.put, List.setIfInBounds_toArray, List.set_cons_zero, List.set_cons_succ]
    refine wpAnyH_take (i := 9) (oi := { dst := some 75, op := Op.move (Operand.tmp 0), type := 26, pos := "law.go:192", after := #[{ on := 8, ground := Ground.guard }], guard := some (8, false) }) (v := .slice (some ⟨gl, ol, none⟩) n c) rfl (by kernel_rfl) (by kernel_rfl) (by kernel_rfl) (fun _ _ _ h => hQ _ _ _ _ _ h) (Yields.yieldsIf (Or.inl ⟨by rfl, fun W => by go_simp⟩)) hww ?_
    simp only [Act.put, List.setIfInBounds_toArray, List.set_cons_zero, List.set_cons_succ]
    refine wpAnyH_take (i := 10) (oi := { dst := some 76, op := Op.move (Operand.tmp 10), type := 36, pos := "law.go:192", after := #[{ on := 8, ground := Ground.guard }], guard := some (8, false) }) (v := .slice (some ⟨ga, 0, none⟩) kn kc) rfl (by kernel_rfl) (by kernel_rfl) (by kernel_rfl) (fun _ _ _ h => hQ _ _ _ _ _ h) (Yields.yieldsIf (Or.inl ⟨by rfl, fun W => by go_simp⟩)) hww ?_
    simp only [Act.put, List.setIfInBounds_toArray, List.set_cons_zero, List.set_cons_succ]
    refine wpAnyH_take (i := 11) (oi := { dst := some 77, op := Op.move (Operand.tmp 11), type := 3, pos := "law.go:192", after := #[{ on := 8, ground := Ground.guard }], guard := some (8, false) }) (v := .int .i64 (k : Int)) rfl (by kernel_rfl) (by kernel_rfl) (by kernel_rfl) (fun _ _ _ h => hQ _ _ _ _ _ h) (Yields.yieldsIf (Or.inl ⟨by rfl, fun W => by go_simp⟩)) hww ?_
    simp only [Act.put, List.setIfInBounds_toArray, List.set_cons_zero, List.set_cons_succ]
    refine wpAnyH_take (i := 12) (oi := { dst := some 78, op := Op.indexAddr 36 (Operand.tmp 76) (Operand.tmp 77), type := 0, pos := "law.go:192", after := #[{ on := 10, ground := Ground.data }, { on := 11, ground := Ground.data }, { on := 8, ground := Ground.guard }], guard := some (8, false) }) (v := .pointer (some ⟨ga, k, none⟩)) rfl (by kernel_rfl) (by kernel_rfl) (by kernel_rfl) (fun _ _ _ h => hQ _ _ _ _ _ h) (Yields.yieldsIf (Or.inl ⟨by rfl, fun W => by go_simp⟩)) hww ?_
    simp only [Act.put, List.setIfInBounds_toArray, List.set_cons_zero, List.set_cons_succ]
    refine wpAnyH_take (i := 13) (oi := { dst := some 79, op := Op.load 31 (Operand.tmp 78), type := 31, pos := "law.go:192", after := #[{ on := 12, ground := Ground.data }, { on := 8, ground := Ground.guard }], guard := some (8, false) }) (v := .int .u64 (x : Int)) rfl (by kernel_rfl) (by kernel_rfl) (by kernel_rfl) (fun _ _ _ h => hQ _ _ _ _ _ h) (Or.inl ⟨by rfl, fun w hw => by have hx := hw.1; go_simp⟩) hww ?_
    simp only [Act.put, List.setIfInBounds_toArray, List.set_cons_zero, List.set_cons_succ]
    refine wpAnyH_take (i := 14) (oi := { dst := some 80, op := Op.indexAddr 26 (Operand.tmp 75) (Operand.tmp 79), type := 0, pos := "law.go:192", after := #[{ on := 9, ground := Ground.data }, { on := 13, ground := Ground.data }, { on := 8, ground := Ground.guard }], guard := some (8, false) }) (v := .pointer (some ⟨gl, (ol + x * 32), none⟩)) rfl (by kernel_rfl) (by kernel_rfl) (by kernel_rfl) (fun _ _ _ h => hQ _ _ _ _ _ h) (Yields.yieldsIf (Or.inl ⟨by rfl, fun W => by go_simp⟩)) hww ?_
    simp only [Act.put, List.setIfInBounds_toArray, List.set_cons_zero, List.set_cons_succ]
    refine wpAnyH_take (i := 15) (oi := { dst := some 81, op := Op.load 30 (Operand.tmp 80), type := 30, pos := "law.go:192", after := #[{ on := 14, ground := Ground.data }, { on := 8, ground := Ground.guard }], guard := some (8, false) }) (v := .agg (CELLS E).toArray) rfl (by kernel_rfl) (by kernel_rfl) (by kernel_rfl) (fun _ _ _ h => hQ _ _ _ _ _ h) (yieldsIf_load_mid (by rfl) 30 (.tmp 80) rfl gl (ol + x * 32) rfl (CELLS E) _ (fun w h => h.2.1) Try.underlying30 rfl (info_cells lE)) hww ?_
    simp only [Act.put, List.setIfInBounds_toArray, List.set_cons_zero, List.set_cons_succ]
    refine wpAnyH_take (i := 16) (oi := { dst := some 82, op := Op.move (Operand.tmp 0), type := 26, pos := "law.go:192", after := #[{ on := 8, ground := Ground.guard }], guard := some (8, false) }) (v := .slice (some ⟨gl, ol, none⟩) n c) rfl (by kernel_rfl) (by kernel_rfl) (by kernel_rfl) (fun _ _ _ h => hQ _ _ _ _ _ h) (Yields.yieldsIf (Or.inl ⟨by rfl, fun W => by go_simp⟩)) hww ?_
    simp only [Act.put, List.setIfInBounds_toArray, List.set_cons_zero, List.set_cons_succ]
    refine wpAnyH_take (i := 17) (oi := { dst := some 83, op := Op.move (Operand.tmp 9), type := 3, pos := "law.go:192", after := #[{ on := 8, ground := Ground.guard }], guard := some (8, false) }) (v := .int .i64 (i : Int)) rfl (by kernel_rfl) (by kernel_rfl) (by kernel_rfl) (fun _ _ _ h => hQ _ _ _ _ _ h) (Yields.yieldsIf (Or.inl ⟨by rfl, fun W => by go_simp⟩)) hww ?_
    simp only [Act.put, List.setIfInBounds_toArray, List.set_cons_zero, List.set_cons_succ]
    refine wpAnyH_take (i := 18) (oi := { dst := some 84, op := Op.indexAddr 26 (Operand.tmp 82) (Operand.tmp 83), type := 0, pos := "law.go:192", after := #[{ on := 16, ground := Ground.data }, { on := 17, ground := Ground.data }, { on := 8, ground := Ground.guard }], guard := some (8, false) }) (v := .pointer (some ⟨gl, (ol + i * 32), none⟩)) rfl (by kernel_rfl) (by kernel_rfl) (by kernel_rfl) (fun _ _ _ h => hQ _ _ _ _ _ h) (Yields.yieldsIf (Or.inl ⟨by rfl, fun W => by go_simp⟩)) hww ?_
    simp only [Act.put, List.setIfInBounds_toArray, List.set_cons_zero, List.set_cons_succ]
    refine wpAnyH_take (i := 19) (oi := { dst := some 85, op := Op.load 30 (Operand.tmp 84), type := 30, pos := "law.go:192", after := #[{ on := 18, ground := Ground.data }, { on := 8, ground := Ground.guard }], guard := some (8, false) }) (v := .agg (CELLS E).toArray) rfl (by kernel_rfl) (by kernel_rfl) (by kernel_rfl) (fun _ _ _ h => hQ _ _ _ _ _ h) (yieldsIf_load_mid (by rfl) 30 (.tmp 84) rfl gl (ol + i * 32) rfl (CELLS E) _ (fun w h => h.2.2) Try.underlying30 rfl (info_cells lE)) hww ?_
    simp only [Act.put, List.setIfInBounds_toArray, List.set_cons_zero, List.set_cons_succ]
    refine wpAnyH_take (i := 20) (oi := { dst := some 86, op := Op.binOp BinOp.neq 30 (Operand.tmp 81) (Operand.tmp 85) 30, type := 4, pos := "law.go:192", after := #[{ on := 15, ground := Ground.data }, { on := 19, ground := Ground.data }, { on := 8, ground := Ground.guard }], guard := some (8, false) }) (v := .bool false) rfl (by kernel_rfl) (by kernel_rfl) (by kernel_rfl) (fun _ _ _ h => hQ _ _ _ _ _ h) (Or.inl ⟨by rfl, fun w hw => run_value (neq_cells E lE _ _ w)⟩) hww ?_
    simp only [Act.put, List.setIfInBounds_toArray, List.set_cons_zero, List.set_cons_succ]
    refine wpAnyH_take (i := 21) (oi := { dst := some 87, op := Op.pick (Operand.tmp 74) (Operand.const (Value.bool true)) (Operand.tmp 86), type := 4, pos := "law.go:192", after := #[{ on := 8, ground := Ground.data }, { on := 20, ground := Ground.data }], guard := none }) (v := .bool false) rfl (by kernel_rfl) (by kernel_rfl) (by kernel_rfl) (fun _ _ _ h => hQ _ _ _ _ _ h) (Yields.yieldsIf (Or.inl ⟨by rfl, fun W => by go_simp⟩)) hww ?_
    simp only [Act.put, List.setIfInBounds_toArray, List.set_cons_zero, List.set_cons_succ]
    exact last
  exact wp_region_held_drew (S := (fun w : World => w.cell? ⟨ga, k, none⟩ = some (.int .u64 (x : Int)) ∧ w.rangeAt gl (ol + x * 32) (CELLS E) ∧ w.rangeAt gl (ol + i * 32) (CELLS E))) (by kernel_rfl) hww (fun _ => z)
end Go.Proofs.Ytlbcnaenhghieaa
