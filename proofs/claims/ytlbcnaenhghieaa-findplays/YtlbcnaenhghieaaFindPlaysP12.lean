/- Texts of FindPlays, one behind the other: FindAwake. -/
import Derived.Test.YtlbcnaenhghieaaFindPlaysP10
import Derived.Test.YtlbcnaenhghieaaFindPlaysP11
/- Three leaves of which two are one. -/
namespace Go.Proofs.Ytlbcnaenhghieaa
open Go.RowKit Go.Maps
set_option maxRecDepth 100000

def HONE : List Int := 1 :: List.replicate 31 0
def HTWO : List Int := 2 :: List.replicate 31 0
/-- the three leaves. -/
def FTHREE : Nat → List Int := fun i => if i = 1 then HTWO else HONE
theorem fthree_is (i : Nat) : FISH (FTHREE i) := by
  unfold FTHREE
  split
  · exact ⟨rfl, by decide⟩
  · exact ⟨rfl, by decide⟩
theorem fthree_at : ATS FTHREE 3 HONE = [0, 2] := by decide
theorem fthree_twice : TWS FTHREE 3 3 = [HONE] := by decide
theorem fthree_unlike : UNL FTHREE 3 = 2 := by decide
theorem aw_at {W : World} {B p : Nat} {v : Value} {m : Option Nat} {h : List Int} (hh : FTHREE 0 = h) (H : FIND W B p v m FTHREE 3) : Calls Try.prog 9 #[.pointer (some ⟨p, 0, none⟩), .agg (CELLS h).toArray] W fun e w' => ∃ gl cl, e = .returned (.slice (some ⟨gl, 0, none⟩) 2 cl) ∧ w'.cell? ⟨gl, 0, none⟩ = some (.int .u64 0) ∧ w'.cell? ⟨gl, 1, none⟩ = some (.int .u64 2) ∧ gl < w'.heap.size ∧ Below W.heap.size W w' := by
  subst hh
  exact (find_at H (by omega) (fthree_is 0)).mono (by
    rintro e w' ⟨a, c, rfl, h1, h2⟩
    rw [show FTHREE 0 = HONE from rfl, fthree_at] at h1 ⊢
    rcases h1.2 with ⟨_, e⟩ | ⟨g, cap, cur, e, _, hg, _⟩
    · cases e
    · cases e
      refine ⟨g, _, rfl, ?_, ?_, (Array.getElem?_eq_some_iff.1 hg).1, h2⟩
      · rw [h1.cellAt 0 (by decide)]; rfl
      · rw [h1.cellAt 1 (by decide)]; rfl)
theorem aw_twice {W : World} {B p : Nat} {v : Value} {m : Option Nat} {h : List Int} (hh : FTHREE 0 = h) (H : FIND W B p v m FTHREE 3) : Calls Try.prog 23 #[.pointer (some ⟨p, 0, none⟩)] W fun e w' => ∃ gt ct, e = .returned (.slice (some ⟨gt, 0, none⟩) 1 ct) ∧ w'.rangeAt gt 0 (CELLS h) ∧ Below W.heap.size W w' := by
  subst hh
  exact (find_twice H (by omega)).mono (by
    rintro e w' ⟨a, c, rfl, h1, h2⟩
    rw [fthree_twice] at h1 ⊢
    rcases h1.2 with ⟨_, e⟩ | ⟨g, cap, cur, e, _, hg, _⟩
    · cases e
    · cases e
      refine ⟨g, _, rfl, fun j u hj => ?_, h2⟩
      have hj2 : j < 32 := by
        have := (List.getElem?_eq_some_iff.1 hj).1
        simpa [CELLS, (fthree_is 0).1] using this
      rw [Nat.zero_add, h1.cellAt j (by simpa using hj2)]
      rw [show FTHREE 0 = HONE from rfl] at hj
      simpa using hj)
theorem aw_add {W : World} {B p n : Nat} {v : Value} {m : Option Nat} {h : List Int} (z : Int) (H : FIND W B p v m FTHREE n) (hn : n < 3) (hh : FTHREE n = h) (hz : (n : Int) = z) : Calls Try.prog 6 #[.pointer (some ⟨p, 0, none⟩), .agg (CELLS h).toArray] W fun e w' => ∃ v' m', e = .returned (.int .u64 z) ∧ FIND w' B p v' m' FTHREE (n + 1) ∧ FSTP W w' p v m v' m' := by
  subst hh hz
  exact find_add H (fthree_is n) (by omega)
/-- what lies there beside the find. -/
theorem FSTP.has {w w' : World} {p k : Nat} {v v' : Value} {m m' : Option Nat} {cs : Array Value} {t : TypeId} (h : FSTP w w' p v m v' m') (hk : Has w k cs t) (hf : ¬ FFT p v m k) : Has w' k cs t := (h.block k hk.lt hf).trans hk
/-- the find and two hashes beside it. -/
structure AWS (w W : World) (p ba n : Nat) (A C : List Int) (v : Value) (m : Option Nat) : Prop where
  find : FIND W p p v m FTHREE n
  one : Has W ba (CELLS A).toArray 30
  two : Has W (ba + 1) (CELLS C).toArray 30
  bel : Below p w W
  foot : ∀ k, FFT p v m k → k = p ∨ ba + 2 ≤ k
  lt : p < ba
theorem AWS.step {w W W' : World} {p ba n n' : Nat} {A C : List Int} {v v' : Value} {m m' : Option Nat} (h : AWS w W p ba n A C v m) (hF : FIND W' p p v' m' FTHREE n') (hS : FSTP W W' p v m v' m') : AWS w W' p ba n' A C v' m' := by
  have hl := h.lt
  have h2 := h.two.lt
  refine ⟨hF, hS.has h.one fun e => ?_, hS.has h.two fun e => ?_, ⟨hS.os.trans h.bel.os, hS.tape.trans h.bel.tape, hS.output.trans h.bel.output, Nat.le_trans h.bel.size hS.size, fun k hk => ?_⟩, fun k e => ?_, hl⟩
  · rcases h.foot _ e with c | c <;> omega
  · rcases h.foot _ e with c | c <;> omega
  · exact (hS.block k (by have := h.find.box.lt; omega) (fun e => by have := (h.find.lt k e).1; omega)).trans (h.bel.block k hk)
  · rcases hS.foot k e with c | c
    · exact h.foot k c
    · exact .inr (by omega)
theorem AWS.keep {w W W' : World} {p ba n : Nat} {A C : List Int} {v : Value} {m : Option Nat} (h : AWS w W p ba n A C v m) (hb : Below W.heap.size W W') : AWS w W' p ba n A C v m := h.step (h.find.keep hb) (FSTP.of_below hb)
theorem load_mid_if22 {ops : Array Oper} {rest : List Oper} {o : Oper} {a : Act} {w : World} {Q : Exit → Act → World → Prop} (hw : Region.wanted o (yielded ops a.tmps) = true) (ty : TypeId) (x : Operand) (ho : o.op = .load ty x)
    (b off : Nat) (hx : a.eval x = .pointer (some ⟨b, off, none⟩)) (cs : List Value) (d : TypeDesc) (hc : w.rangeAt b off cs) (hu : Try.prog.underlying ty = some d) (hd : d.isRow = true) (hi : (Try.prog.info? ty).map (·.size) = some cs.length)
    (h : wpList Try.prog ops Q rest (a.put o.dst (.agg cs.toArray)) w) : wpList Try.prog ops Q (o :: rest) a w := by
  simp only [wpList]
  rw [if_pos hw]
  exact .inl (wp_load_mid ty x ho b off hx cs d hc hu hd hi h)
theorem plain_if22 {ops : Array Oper} {rest : List Oper} {o : Oper} {a : Act} {w w' : World} {Q : Exit → Act → World → Prop} {v : Value} (hw : Region.wanted o (yielded ops a.tmps) = true) (hrun : (execOp a.eval o).run Try.prog w = .ok (.value v) w') (h : wpList Try.prog ops Q rest (a.put o.dst v) w') : wpList Try.prog ops Q (o :: rest) a w := by
  simp only [wpList]
  rw [if_pos hw]
  refine .inl ?_
  unfold Oper.wp
  rw [hrun]
  exact h
/-- a hash of one byte is built. -/
theorem build_byte {ops : Array Oper} {rest : List Oper} {o : Oper} {a : Act} {w : World} {Q : Exit → Act → World → Prop} (hg : o.guard = none) {x : Operand} {z : Int} {h : List Int} (ho : o.op = .build 30 #[(0, x)]) (hx : a.eval x = .int .u8 z) (hb : Try.prog.built 30 [(0, .int .u8 z)] = some (CELLS h).toArray)
    (hh : wpList Try.prog ops Q rest (a.put o.dst (.agg (CELLS h).toArray)) w) : wpList Try.prog ops Q (o :: rest) a w := by
  have e : Try.prog.built 30 ((#[(0, x)] : Array (Nat × Operand)).map fun (i, x) => (i, a.eval x)).toList = some (CELLS h).toArray := by
    simp only [List.map_toArray, List.map_cons, List.map_nil, hx]
    exact hb
  refine wpList_build hg 30 _ ho (by rw [e]; rfl) ?_
  rw [e]
  exact hh
set_option maxHeartbeats 4000000 in
theorem awake22_ok (w : World) : Calls Try.prog 16 #[] w fun e w' => e = .returned (.bool true) ∧ Below w.heap.size w w' := by
  have hn := find_new FTHREE w
  have hb1 : Try.prog.built 30 [(0, .int .u8 1)] = some (CELLS HONE).toArray := by kernel_rfl
  have hb2 : Try.prog.built 30 [(0, .int .u8 2)] = some (CELLS HTWO).toArray := by kernel_rfl
  have hz := zeroHashF
  go_enter Try.func16, Try.ntmps16
  go_wp2_with fail
  refine hn.mono ?_
  rintro e w1 ⟨rfl, F1, bl1⟩
  clear hn
  obtain ⟨p, hp⟩ : ∃ p, w.heap.size = p := ⟨_, rfl⟩
  have HP : Aside (w.heap.size = p) := hp
  rw [hp] at F1 ⊢
  obtain ⟨ba, hba⟩ : ∃ b, w1.heap.size = b := ⟨_, rfl⟩
  have hpa : p < ba := by have := F1.box.lt; omega
  obtain ⟨wa, hwa⟩ : ∃ wa, (w1.alloc (.cells ZARR 30)).alloc (.cells ZARR 30) = wa := ⟨_, rfl⟩
  have ka : Has wa ba (CELLS ZND).toArray 30 := by rw [← hwa, ← hba]; exact (Has.new _ _ _).alloc _
  have kb : Has wa (ba + 1) (CELLS ZND).toArray 30 := by rw [← hwa]; exact Has.at _ _ _ (by simp [hba])
  have s1 := store_cellsF ka (y := HONE) rfl rfl
  have ka2 : Has (wa.setRow ba (CELLS HONE).toArray) ba (CELLS HONE).toArray 30 := ka.row _
  have kb2 : Has (wa.setRow ba (CELLS HONE).toArray) (ba + 1) (CELLS ZND).toArray 30 := kb.row_other (by omega) _
  have s2 := store_cellsF kb2 (y := HTWO) rfl rfl
  obtain ⟨w2, hw2⟩ : ∃ w2, (wa.setRow ba (CELLS HONE).toArray).setRow (ba + 1) (CELLS HTWO).toArray = w2 := ⟨_, rfl⟩
  have ka3 : Has w2 ba (CELLS HONE).toArray 30 := by rw [← hw2]; exact ka2.row_other (by omega) _
  have kb3 : Has w2 (ba + 1) (CELLS HTWO).toArray 30 := by rw [← hw2]; exact kb2.row _
  rw [hw2] at s2
  have bl2 : Below ba w1 w2 := by
    rw [← hw2, ← hwa]
    exact setrow_below (setrow_below (((Below.refl _ _).alloc (by omega) _).alloc (by simp; omega) _) (by omega)) (by omega)
  have F2 : FIND w2 p p (.slice none 0 0) none FTHREE 0 := F1.keep (by rw [hba]; exact bl2)
  have L1 : Aside (HONE.length = 32 ∧ HTWO.length = 32) := ⟨rfl, rfl⟩
  have HB : Aside (Below p w w2) := by
    have := bl1.trans (bl2.mono (by omega))
    rwa [hp] at this
  have q1 : (CELLS HONE).length = 32 := rfl
  have q2 : (CELLS HTWO).length = 32 := rfl
  have e1 : FTHREE 0 = HONE := rfl
  have e2 : FTHREE 1 = HTWO := rfl
  have e3 : FTHREE 2 = HONE := rfl
  have hN : Aside (∀ k, ¬ FFT p (.slice none 0 0) none k ∨ k = p) := fun k => by
    by_cases c : k = p
    · exact .inr c
    · exact .inl (by rintro (e | e | e) <;> first | exact c e | cases e)
  clear ka kb ka2 kb2 F1 bl1 bl2 hp
  generalize HONE = A at *
  generalize HTWO = C at *
  generalize ZARR = Z at *
  go_wp2_with (first
    | (refine build_byte rfl rfl rfl hb1 ?_)
    | (refine build_byte rfl rfl rfl hb2 ?_)
    | (refine wpList_load_row rfl 30 (.tmp 2) rfl ba rfl 30 (CELLS A).toArray (0, 0) _ ka3 Try.underlying30 rfl (info_arr L1.out.1) ?_)
    | fail)
  have S0 : AWS w w2 p ba 0 A C (.slice none 0 0) none := ⟨F2, ka3, kb3, HB.out, fun k h => (by rcases h with e | e | e <;> first | exact .inl e | cases e), hpa⟩
  have c0 := aw_add 0 S0.find (by omega) e1 rfl
  clear F2 HB hN s1 s2 hw2 hwa hba ka3 kb3 hz hb1 hb2 q1 q2
  refine c0.mono ?_
  rintro e w3 ⟨v3, m3, rfl, F3, T3⟩
  have S3 := S0.step F3 T3
  have r3 := S3.two
  have c3 := aw_add 1 S3.find (by omega) e2 rfl
  clear c0 S0 F3 T3 hpa
  go_wp2_with (first
    | (refine load_mid_if22 (by rfl) 30 (.tmp 3) rfl (ba + 1) 0 rfl (CELLS C) _ (has_rangef r3) Try.underlying30 rfl (info_cells L1.out.2) ?_)
    | fail)
  refine c3.mono ?_
  rintro e w4 ⟨v4, m4, rfl, F4, T4⟩
  have S4 := S3.step F4 T4
  have r4 := S4.one
  have c4 := aw_add 2 S4.find (by omega) e3 rfl
  clear c3 S3 F4 T4 r3
  go_wp2_with (first
    | (refine load_mid_if22 (by rfl) 30 (.tmp 2) rfl ba 0 rfl (CELLS A) _ (has_rangef r4) Try.underlying30 rfl (info_cells L1.out.1) ?_)
    | fail)
  refine c4.mono ?_
  rintro e w5 ⟨v5, m5, rfl, F5, T5⟩
  have S5 := S4.step F5 T5
  have r5 := S5.one
  have c5 := aw_at e1 S5.find
  clear c4 S4 F5 T5 r4
  go_wp2_with (first
    | (refine wpList_load_row rfl 30 (.tmp 2) rfl ba rfl 30 (CELLS A).toArray (0, 0) _ r5 Try.underlying30 rfl (info_arr L1.out.1) ?_)
    | fail)
  refine c5.mono ?_
  rintro e w6 ⟨gl, cl, rfl, x0, x1, hgl, bl6⟩
  have S6 := S5.keep bl6
  have c6 := aw_twice e1 S6.find
  clear c5 S5 bl6 r5
  go_wp2_with fail
  refine c6.mono ?_
  rintro e w7 ⟨gt, ct, rfl, xr, bl7⟩
  have S7 := S6.keep bl7
  have y0 : w7.cell? ⟨gl, 0, none⟩ = some (.int .u64 0) := (bl7.cell (p := ⟨gl, 0, none⟩) hgl).trans x0
  have y1 : w7.cell? ⟨gl, 1, none⟩ = some (.int .u64 2) := (bl7.cell (p := ⟨gl, 1, none⟩) hgl).trans x1
  clear c6 S6 bl7 x0 x1 hgl
  go_upto_region 8 with fail
  refine fawake8 w7 p ba gl cl gt ct A L1.out.1 (fun W => W = w7.drew) rfl ?_ ?_ ?_ (fun _ _ _ _ _ h => h) ?_
  · rintro W rfl
    exact ⟨y0, y1, xr, has_rangef S7.one⟩
  · rintro W rfl
    have h := find_unlike (S7.keep ((Below.refl _ _).drew)).find
    rw [fthree_unlike] at h
    exact h.mono (by rintro e w' ⟨rfl, rfl⟩; exact ⟨rfl, rfl⟩)
  · rintro W rfl
    exact (find_size (S7.keep ((Below.refl _ _).drew)).find (by omega)).mono (by rintro e w' ⟨rfl, rfl⟩; exact ⟨rfl, rfl⟩)
  · rintro W rfl
    have Z : Aside (Below w.heap.size w w7.drew) := by
      have := S7.bel.drew
      rw [← HP.out] at this
      exact this
    clear S7 y0 y1 xr
    go_wp2
    go_ret
    exact ⟨rfl, Z.out⟩
end Go.Proofs.Ytlbcnaenhghieaa
