/- Texts of FindPlays, one behind the other: FindCalls, FindAdd, FindLeaf. -/
import Derived.BigQuiet
import Derived.Deep.QuietTactic
import Derived.Test.YtlbcnaenhghieaaFindPlaysP4
/- The last index of a hash; the hash at an index. -/
namespace Go.Proofs.Ytlbcnaenhghieaa
open Go.RowKit Go.Maps
set_option maxRecDepth 100000

set_option maxHeartbeats 2000000 in
theorem find_last {w : World} {B p n : Nat} {v : Value} {m : Option Nat} {f : Nat → List Int} (H : FIND w B p v m f n) {h : List Int} (hh : FISH h) : Calls Try.prog 19 #[.pointer (some ⟨p, 0, none⟩), .agg (CELLS h).toArray] w fun e w' => e = .returned (.int .i64 (LSTI f n h)) ∧ Below w.heap.size w w' := by
  obtain ⟨W0, hW0⟩ : ∃ W0, w.alloc (.cells (CELLS h).toArray 30) = W0 := ⟨_, rfl⟩
  obtain ⟨b3, hb3⟩ : ∃ b, w.heap.size = b := ⟨_, rfl⟩
  have hb0 : Below w.heap.size w W0 := by rw [← hW0]; exact (Below.refl _ _).alloc (Nat.le_refl _) _
  have k3 : Has W0 b3 (CELLS h).toArray 30 := by rw [← hW0, ← hb3]; exact Has.new _ _ _
  have H0 := H.keep hb0
  have x1 := H0.box.cell 1
  have h3 : W0.rangeAt b3 0 (CELLS h) := fun j u hj => by rw [Nat.zero_add, k3.cell, List.getElem?_toArray]; exact hj
  have hr := LSTI_range f h n
  have L : Aside (h.length = 32) := hh.1
  obtain ⟨z, hl, hz⟩ : ∃ z, (∀ w2 : World, w2.heap = W0.heap → (Instr.lookup 50 (.map m) (.agg (CELLS h).toArray) true).run Try.prog w2 = .ok (.tuple #[.int .i64 z, .bool (decide (LSTI f n h ≠ -1))]) w2) ∧ (LSTI f n h ≠ -1 → z = LSTI f n h) := by
    rcases H0.map with ⟨rfl, _, rfl⟩ | ⟨b, rfl, _, hm⟩
    · exact ⟨0, fun w2 _ => by rw [look_noneF hh]; rfl, fun e => absurd rfl e⟩
    · obtain ⟨D, h1, h2⟩ := hm
      obtain ⟨z, _, hz⟩ := FMAP.look ⟨D, h1, h2⟩ hh
      have key : ∀ w2 : World, w2.heap = W0.heap → ∃ z2, (Instr.lookup 50 (.map (some b)) (.agg (CELLS h).toArray) true).run Try.prog w2 = .ok (.tuple #[.int .i64 z2, .bool (decide (LSTI f n h ≠ -1))]) w2 ∧ (LSTI f n h ≠ -1 → z2 = LSTI f n h) ∧ (LSTI f n h = -1 → z2 = 0) := fun w2 e => by
        have h1' : w2.ownsMap Try.prog 30 (plainElem Try.prog 3) b (UNL f n) D := by
          obtain ⟨es, clock, hb, r⟩ := h1
          exact ⟨es, clock, by rw [e]; exact hb, r⟩
        obtain ⟨es, clock, hb, F, _, rfl⟩ := h1'
        rcases Maps.fit_look true lawF Try.underlying50 (zeroF w2) hb F (hkf_ok hh) with ⟨hrun, _, hat⟩ | ⟨e0, y, _, _, hrun, hRv, hat, _⟩
        · have e2 := Maps.has_false_of_atKey hat
          have e3 : LSTI f n h = -1 := Classical.byContradiction fun c => by rw [(h2.has h hh).2 c] at e2; cases e2
          exact ⟨0, by rw [hrun]; simp [e3], fun c => absurd e3 c, fun _ => rfl⟩
        · have e2 := Maps.has_true_of_atKey hat
          have e3 := (h2.has h hh).1 e2
          obtain ⟨c, ec, hc, hwc⟩ := plainElem_int_inv Try.underlying3 hRv
          have hcc : c = LSTI f n h := by
            have := h2.at_ h hh e3 (.lit (.int .i64 0))
            rw [hat, hc] at this
            simpa using this
          exact ⟨LSTI f n h, by rw [hrun, ec, hcc]; simp [e3], fun _ => rfl, fun c => absurd c e3⟩
      by_cases e : LSTI f n h = -1
      · refine ⟨0, fun w2 ew => ?_, fun c => absurd e c⟩
        obtain ⟨z2, r1, _, r3⟩ := key w2 ew
        rw [r1, r3 e]
      · refine ⟨LSTI f n h, fun w2 ew => ?_, fun _ => rfl⟩
        obtain ⟨z2, r1, r2, _⟩ := key w2 ew
        rw [r1, r2 e]
  have R : Aside (Below w.heap.size w W0) := hb0
  generalize LSTI f n h = l at *
  clear H H0 k3 hb0 hh
  have k1 : ∀ w2 : World, w2 = W0.drew → w2.cell? ⟨p, 1, none⟩ = some (.map m) ∧ w2.rangeAt b3 0 (CELLS h) := fun w2 e => by rw [e]; exact ⟨x1, h3⟩
  by_cases c : l = -1
  · subst c
    have hl1 : ∀ w2 : World, w2 = W0.drew → (Instr.lookup 50 (.map m) (.agg (CELLS h).toArray) true).run Try.prog w2 = .ok (.tuple #[.int .i64 z, .bool false]) w2 := fun w2 e => by rw [e]; exact hl _ rfl
    clear hz hr hl x1 h3
    go_enter Try.func19, Try.ntmps19
    go_upto_region 1 with fail
    clear hW0 hb3
    refine flast1 _ p b3 m h L.out z false (fun w2 => w2 = W0.drew) rfl (fun w2 e => ⟨(k1 w2 e).1, (k1 w2 e).2, hl1 w2 e⟩) (fun _ _ _ _ _ => id) ?_
    rintro w2 rfl
    clear hl1 k1 L
    go_wp2
    go_ret
    exact ⟨rfl, R.out.drew⟩
  · have hz' := hz c
    subst hz'
    have hl1 : ∀ w2 : World, w2 = W0.drew → (Instr.lookup 50 (.map m) (.agg (CELLS h).toArray) true).run Try.prog w2 = .ok (.tuple #[.int .i64 z, .bool true]) w2 := fun w2 e => by rw [e]; exact (hl W0.drew rfl).trans (by simp [c])
    clear hr hl hz c x1 h3
    go_enter Try.func19, Try.ntmps19
    go_upto_region 1 with fail
    clear hW0 hb3
    refine flast1 _ p b3 m h L.out z true (fun w2 => w2 = W0.drew) rfl (fun w2 e => ⟨(k1 w2 e).1, (k1 w2 e).2, hl1 w2 e⟩) (fun _ _ _ _ _ => id) ?_
    rintro w2 rfl
    clear hl1 k1 L
    go_wp2
    go_ret
    exact ⟨rfl, R.out.drew⟩
end Go.Proofs.Ytlbcnaenhghieaa

/- A leaf is added. -/
namespace Go.Proofs.Ytlbcnaenhghieaa
open Go.RowKit Go.Maps
set_option maxRecDepth 100000

theorem FMAP.ne {w : World} {b k n : Nat} {f : Nat → List Int} {cs : Array Value} {t : TypeId} (h : FMAP w b f n) (hk : Has w k cs t) : k ≠ b := fun e => by
  obtain ⟨D, ⟨es, clock, h1, _⟩, _⟩ := h
  unfold Has at hk
  rw [e, h1] at hk
  simp at hk
theorem FMAP.own_ne {w : World} {b n B s : Nat} {f : Nat → List Int} {t : TypeId} {v : Value} {k : Nat} {xs : List Value} (h : FMAP w b f n) (ho : w.ownsRow B t s v k xs) : v.ownBlock ≠ some b := fun e => by
  obtain ⟨D, ⟨es, clock, h1, _⟩, _⟩ := h
  rcases ho.2 with ⟨rfl, _⟩ | ⟨g, cap, cur, rfl, _, h', _⟩
  · cases e
  · simp only [Value.ownBlock, Option.some.injEq] at e
    subst e
    rw [h1] at h'
    cases h'
/-- behind the append of an entry: the map has not met it. -/
structure FMID (w w1 : World) (B p : Nat) (v v' : Value) (m m' : Option Nat) (f : Nat → List Int) (n b3 : Nat) : Prop where
  box : Has w1 p #[v', .map m'] 52
  own : w1.ownsRow B 55 33 v' (n + 1) (ECS f (n + 1))
  step : FSTP w w1 p v m v' m'
  hash : Has w1 b3 (CELLS (f n)).toArray 30
  map : ∀ b, m' = some b → FMAP w1 b f n ∧ B ≤ b
  ne : v'.ownBlock ≠ some p
theorem FMID.made {w w1 : World} {B p b3 : Nat} {v v' : Value} {f : Nat → List Int} (h : FMID w w1 B p v v' none none f 0 b3) (h3 : b3 ≠ p) (hB : B ≤ w.heap.size) : FMID w ((w1.alloc (.map #[] 0)).setCell ⟨p, 1, none⟩ (.map (some w1.heap.size))) B p v v' none (some w1.heap.size) f 0 b3 := by
  have hb : Below w1.heap.size w1 (w1.alloc (.map #[] 0)) := (Below.refl _ _).alloc (Nat.le_refl _) _
  have hp := h.box.lt
  have hs := h.step.size
  refine ⟨(h.box.keep hb).set 1 _, own_heap h.own fun k e => ?_, ?_, ?_, fun b e => ?_, h.ne⟩
  · rw [Below.heap_setCell _ _ _ k (fun e2 => h.ne (by rw [e, e2]))]
    exact hb.block k (h.own.lt k e).2
  · refine ⟨h.step.os, h.step.tape, h.step.output, ?_, fun k h1 h2 => ?_, ?_⟩
    · simp; omega
    · rw [Below.heap_setCell _ _ _ k (fun e2 => h2 (.inl e2))]
      exact (hb.block k (by omega)).trans (h.step.block k h1 h2)
    · rintro k (e | e | e)
      · exact .inl (.inl e)
      · exact h.step.foot k (.inr (.inl e))
      · cases e
        exact .inr hs
  · exact (Below.heap_setCell _ _ _ b3 h3).trans (h.hash.keep hb)
  · cases e
    refine ⟨(FMAP.made w1 f).at (Below.heap_setCell _ _ _ _ (by show w1.heap.size ≠ p; omega)), by omega⟩
theorem FMID.last {w w1 : World} {B p b b3 n : Nat} {v v' : Value} {m : Option Nat} {f : Nat → List Int} (h : FMID w w1 B p v v' m (some b) f n b3) (hn : n < 100000) (hf : ∀ i, i < n + 1 → FISH (f i)) (hB : B ≤ p) : ∃ w2, (Instr.mapUpdate 50 (.map (some b)) (.agg (CELLS (f n)).toArray) (.int .i64 (n : Int))).run Try.prog w1 = .ok () w2 ∧ FIND w2 B p v' (some b) f (n + 1) ∧ FSTP w w2 p v m v' (some b) ∧ Has w2 b3 (CELLS (f n)).toArray 30 := by
  obtain ⟨hm, hBb⟩ := h.map b rfl
  obtain ⟨w2, r1, r2, r3⟩ := hm.add (by omega) (hf n (by omega))
  have hpb := hm.ne h.box
  have ho := hm.own_ne h.own
  refine ⟨w2, r1, ⟨(r3.block p h.box.lt (fun e => hpb (by simpa using e))).trans h.box, own_heap h.own fun k e => r3.block k (h.own.lt k e).2 (fun e2 => ho (by rw [e]; exact e2)), .inr ⟨b, rfl, hBb, r2⟩, hf, hB⟩, h.step.trans ⟨r3.os, r3.tape, r3.output, r3.size, fun k h1 h2 => r3.block k h1 (fun e => h2 (.inr (.inr (by simpa [eq_comm] using e)))), fun _ e => .inl e⟩, (r3.block b3 h.hash.lt (fun e => (hm.ne h.hash) (by simpa using e))).trans h.hash⟩
theorem fmap_eql (b : Nat) (w : World) : (binOp .eql 50 (.map (some b)) (.map none)).run Try.prog w = .ok (.bool false) w := by kernel_rfl
theorem fmap_eql0 (w : World) : (binOp .eql 50 (.map none) (.map none)).run Try.prog w = .ok (.bool true) w := by kernel_rfl
theorem has_rangef {w : World} {b : Nat} {h : List Int} {t : TypeId} (k : Has w b (CELLS h).toArray t) : w.rangeAt b 0 (CELLS h) := fun j u hj => by
  rw [Nat.zero_add, k.cell, List.getElem?_toArray]
  exact hj
set_option maxHeartbeats 4000000 in
theorem find_add {w : World} {B p n : Nat} {v : Value} {m : Option Nat} {f : Nat → List Int} (H : FIND w B p v m f n) (hh : FISH (f n)) (hn : n < 100000) : Calls Try.prog 6 #[.pointer (some ⟨p, 0, none⟩), .agg (CELLS (f n)).toArray] w fun e w' => ∃ v' m', e = .returned (.int .u64 (n : Int)) ∧ FIND w' B p v' m' f (n + 1) ∧ FSTP w w' p v m v' m' := by
  obtain ⟨a, c, rfl, -⟩ := H.slice
  obtain ⟨w0, hw0⟩ : ∃ w0, w.alloc (.cells (CELLS (f n)).toArray 30) = w0 := ⟨_, rfl⟩
  obtain ⟨b3, hb3⟩ : ∃ b, w.heap.size = b := ⟨_, rfl⟩
  obtain ⟨h, hfn⟩ : ∃ h, f n = h := ⟨_, rfl⟩
  have hb0 : Below w.heap.size w w0 := by rw [← hw0]; exact (Below.refl _ _).alloc (Nat.le_refl _) _
  have k3 : Has w0 b3 (CELLS h).toArray 30 := by rw [← hw0, ← hb3, ← hfn]; exact Has.new _ _ _
  have H0 := H.keep hb0
  have hp := H.box.lt
  have hB := H.base
  have lh : h.length = 32 := by rw [← hfn]; exact hh.1
  have hfi : ∀ i, i < n + 1 → FISH (f i) := fun i hi => by
    by_cases e : i = n
    · rw [e]; exact hh
    · exact H.is i (by omega)
  have hap := H.apart
  have hx := H0.box
  have ho := H0.own
  have hmap := H0.map
  have hFLT := H.lt
  have FIN : Aside (∀ g q W W', Below w0.heap.size w0 W → W'.ownsRow B 55 33 (.slice (some ⟨g, 0, none⟩) (n + 1) q) (n + 1) (ECS f n ++ (CELLS h ++ [Value.int .i64 (LSTI f n h)])) → W.grownBy W' (Value.slice a n c).ownBlock → ((Value.slice a n c).ownBlock = some g ∨ g = W.heap.size) → FMID w (W'.setCell ⟨p, 0, none⟩ (.slice (some ⟨g, 0, none⟩) (n + 1) q)) B p (.slice a n c) (.slice (some ⟨g, 0, none⟩) (n + 1) q) m m f n b3) := fun g q W W' hb ho hg hat => by
    have hbw : Below w.heap.size w W := hb0.trans (hb.mono hb0.size)
    have hsz := hbw.size
    have hgg : g ≠ p := fun e => by
      subst e
      rcases hat with hat | hat
      · exact hap.1 hat
      · omega
    refine ⟨?_, ?_, ?_, ?_, fun b e => ?_, ?_⟩
    · have hB' : Has W' p #[.slice a n c, .map m] 52 := (hg.block p (by omega) (fun e => hap.1 e.symm)).trans ((hb.block p (by have := hb0.size; omega)).trans hx)
      exact hB'.set 0 _
    · refine own_heap (xs := ECS f (n + 1)) ?_ fun k e => Below.heap_setCell _ _ _ k (fun e2 => hgg (by
        have e : g = k := by simpa [Value.ownBlock] using e
        rw [e]
        exact e2))
      rw [ECS, ENT, hfn]
      exact ho
    · refine ⟨hg.os.trans hbw.os, hg.tape.trans hbw.tape, hg.output.trans hbw.output, by have := hg.size; simp; omega, fun k h1 h2 => (Below.heap_setCell _ _ _ k (fun e => h2 (.inl e))).trans ((hg.block k (by omega) (fun e => h2 (.inr (.inl e.symm)))).trans (hbw.block k h1)), ?_⟩
      rintro k (e | e | e)
      · exact .inl (.inl e)
      · have e : g = k := by simpa [Value.ownBlock] using e
        subst e
        rcases hat with hat | hat
        · exact .inl (.inr (.inl hat))
        · exact .inr (by omega)
      · exact .inl (.inr (.inr e))
    · have h3 : b3 < W.heap.size := Nat.lt_of_lt_of_le k3.lt hb.size
      rw [hfn]
      exact (Below.heap_setCell _ _ _ b3 (by show b3 ≠ p; omega)).trans ((hg.block b3 h3 (fun e => by have := (hFLT b3 (.inr (.inl e.symm))).2; omega)).trans ((hb.block b3 k3.lt).trans k3))
    · subst e
      rcases hmap with ⟨e, _⟩ | ⟨b2, e, h1, h2⟩
      · cases e
      · cases e
        refine ⟨h2.at ?_, h1⟩
        have hbl := h2.lt
        refine (Below.heap_setCell _ _ _ b (fun e => hap.2.1 (by rw [e]))).trans ((hg.block b (Nat.lt_of_lt_of_le hbl hb.size) (fun e => hap.2.2 b e.symm rfl)).trans (hb.block b hbl))
    · intro e
      exact hgg (by simpa [Value.ownBlock] using e)
  have EQ : Aside (IntKind.u64.wrap (n : Int) = (n : Int)) := u64f (by omega)
  have hn5 : n ≤ 100000 := by omega
  have h3o : (Value.slice a n c).ownBlock ≠ some b3 := fun e => by have := (H.own.lt b3 e).2; omega
  have h3p : b3 ≠ p := by omega
  have hp0 : p < w0.heap.size := Nat.lt_of_lt_of_le hp hb0.size
  have hBw : B ≤ w0.heap.size := by omega
  have hBw' : B ≤ w.heap.size := by omega
  have hne0 := hap.1
  have HL : Aside (∀ W, Below w0.heap.size w0 W → Calls Try.prog 19 #[.pointer (some ⟨p, 0, none⟩), .agg (CELLS h).toArray] W fun e w' => e = .returned (.int .i64 (LSTI f n h)) ∧ Below w0.heap.size w0 w') := fun W hb => (find_last (H0.keep hb) (by rw [← hfn]; exact hh)).mono (by
    rintro e w' ⟨rfl, h1⟩
    exact ⟨rfl, hb.trans (h1.mono hb.size)⟩)
  have CASE : m = none ∧ n = 0 ∨ ∃ b, m = some b := by
    rcases hmap with ⟨e, _, e2⟩ | ⟨b, e, _⟩
    · exact .inl ⟨e, e2⟩
    · exact .inr ⟨b, e⟩
  rw [hfn] at hw0 ⊢
  clear H H0 hb0 hp hap hmap hFLT
  go_enter Try.func6, Try.ntmps6
  have x0 := hx.cell 0
  go_upto_region 2 with fail
  clear hw0 hb3 x0
  refine fadd2 w0 p b3 n c B a h lh (LSTI f n h) (ECS f n) hn5 (fun W => Below w0.heap.size w0 W) (fun z W => Below w0.heap.size w0 W ∧ Has W z (CELLS h ++ [Value.int .i64 (LSTI f n h)]).toArray 55) (fun z g q W' => ∃ W, Below w0.heap.size w0 W ∧ W'.ownsRow B 55 33 (.slice (some ⟨g, 0, none⟩) (n + 1) q) (n + 1) (ECS f n ++ (CELLS h ++ [Value.int .i64 (LSTI f n h)])) ∧ W.grownBy W' (Value.slice a n c).ownBlock ∧ ((Value.slice a n c).ownBlock = some g ∨ g = W.heap.size)) (fun W2 => ∃ g q W W', Below w0.heap.size w0 W ∧ W'.ownsRow B 55 33 (.slice (some ⟨g, 0, none⟩) (n + 1) q) (n + 1) (ECS f n ++ (CELLS h ++ [Value.int .i64 (LSTI f n h)])) ∧ W.grownBy W' (Value.slice a n c).ownBlock ∧ ((Value.slice a n c).ownBlock = some g ∨ g = W.heap.size) ∧ W2 = W'.setCell ⟨p, 0, none⟩ (.slice (some ⟨g, 0, none⟩) (n + 1) q)) (Below.refl _ _).drew ?_ ?_ ?_ ?_ (fun W hb => HL.out W hb) ?_ ?_ ?_ ?_ ?_ ?_ ?_ ?_ ?_ (fun _ _ _ _ _ h => h) ?_
  · exact fun W h => has_rangef (k3.keep h)
  · exact fun z W h => has_rangef (k3.keep h.1)
  · rintro z g q W' ⟨W, h1, h2, h3, h4⟩
    exact has_rangef ((h3.block b3 (Nat.lt_of_lt_of_le k3.lt h1.size) (fun e => h3o e.symm)).trans ((h1.block b3 k3.lt).trans k3))
  · rintro W2 ⟨g, q, W, W', h1, h2, h3, h4, rfl⟩
    exact has_rangef ((Below.heap_setCell _ _ _ b3 h3p).trans ((h3.block b3 (Nat.lt_of_lt_of_le k3.lt h1.size) (fun e => h3o e.symm)).trans ((h1.block b3 k3.lt).trans k3)))
  · exact fun W h => (hx.keep h).cell 0
  · exact fun z W h => (hx.keep h.1).cell 0
  · exact fun W h => ⟨h.alloc h.size _, Has.new _ _ _⟩
  · exact fun z W h => own_heap ho fun k e => h.1.block k (ho.lt k e).2
  · exact fun z W h j u hj => by rw [Nat.zero_add, h.2.cell, List.getElem?_toArray]; exact hj
  · exact fun z W h => Nat.le_trans hBw h.1.size
  · exact fun z W g q W' h h1 h2 h3 => ⟨W, h.1, h1, h2, h3⟩
  · rintro z g q W' ⟨W, h1, h2, h3, h4⟩
    have := (h3.block p (Nat.lt_of_lt_of_le hp0 h1.size) (fun e => hne0 e.symm)).trans ((h1.block p hp0).trans hx)
    have hB : Has W' p #[.slice a n c, .map m] 52 := this
    exact ⟨hB.cell 0, hB.frozen 0⟩
  · exact fun z g q W' ⟨W, h1, h2, h3, h4⟩ => ⟨g, q, W, W', h1, h2, h3, h4, rfl⟩
  · rintro z g q W2 ⟨g', q', W, W', h1, h2, h3, h4, rfl⟩
    have F := FIN.out g' q' W W' h1 h2 h3 h4
    generalize W'.setCell ⟨p, 0, none⟩ (.slice (some ⟨g', 0, none⟩) (n + 1) q') = W2 at *
    clear FIN h1 h2 h3 h4 hx ho HL k3 h3o
    obtain ⟨v', hv'⟩ : ∃ v', Value.slice (some ⟨g', 0, none⟩) (n + 1) q' = v' := ⟨_, rfl⟩
    rw [hv'] at F
    clear hv' W W'
    rcases CASE with ⟨rfl, rfl⟩ | ⟨b, rfl⟩
    · have x1 := F.box.cell 1
      have xe := fmap_eql0
      have f1 := F.box.frozen 1
      have F2 := F.made h3p hBw'
      have xa : (W2.alloc (.map #[] 0)).cell? ⟨p, 1, none⟩ = some (.map none) := (F.box.keep ((Below.refl _ _).alloc (Nat.le_refl _) _)).cell 1
      have fa : (W2.alloc (.map #[] 0)).frozen? ⟨p, 1, none⟩ = false := (F.box.keep ((Below.refl _ _).alloc (Nat.le_refl _) _)).frozen 1
      obtain ⟨b, hb⟩ : ∃ b, W2.heap.size = b := ⟨_, rfl⟩
      rw [hb] at F2
      have hmk : (Instr.makeMap 50 none).run Try.prog W2 = .ok (.map (some b)) (W2.alloc (.map #[] 0)) := by rw [← hb]; rfl
      obtain ⟨W3, hW3⟩ : ∃ W3, (W2.alloc (.map #[] 0)).setCell ⟨p, 1, none⟩ (.map (some b)) = W3 := ⟨_, rfl⟩
      rw [hW3] at F2
      have F3 : Aside (FMID w W3 B p (.slice a 0 c) v' none (some b) f 0 b3) := F2
      clear F F2 hb
      go_upto_region 5 with fail
      clear hW3 hmk x1 f1 xa fa xe
      refine fadd5 W3 p b3 b h lh _ (fun W => W = W3.drew) (fun W => FIND W B p v' (some b) f (0 + 1) ∧ FSTP w W p (.slice a 0 c) none v' (some b) ∧ Has W b3 (CELLS h).toArray 30) rfl ?_ ?_ ?_ (fun _ _ _ _ _ h => h) ?_
      · rintro W rfl
        exact ⟨F3.out.box.cell 1, by rw [← hfn]; exact has_rangef F3.out.hash⟩
      · rintro W ⟨k1, k2, k3⟩
        exact ⟨k1.box.cell 1, has_rangef k3⟩
      · rintro W rfl
        have F4 : FMID w W3.drew B p (.slice a 0 c) v' none (some b) f 0 b3 := ⟨F3.out.box, F3.out.own, ⟨F3.out.step.os, F3.out.step.tape, F3.out.step.output, F3.out.step.size, F3.out.step.block, F3.out.step.foot⟩, F3.out.hash, F3.out.map, F3.out.ne⟩
        obtain ⟨W4, r1, r2, r3, r4⟩ := F4.last hn hfi hB
        rw [hfn] at r1 r4
        exact ⟨W4, r1, r2, r3, r4⟩
      · rintro W4 ⟨r1, r2, -⟩
        have R : Aside (FIND W4 B p v' (some b) f (0 + 1) ∧ FSTP w W4 p (.slice a 0 c) none v' (some b)) := ⟨r1, r2⟩
        have eu := EQ.out
        clear r1 r2 F3
        go_wp2
        go_ret
        exact ⟨v', some b, rfl, R.out.1, R.out.2⟩
    · have x1 := F.box.cell 1
      have xe := fmap_eql
      have F3 : Aside (FMID w W2 B p (.slice a n c) v' (some b) (some b) f n b3) := F
      clear F
      go_upto_region 5 with fail
      clear x1 xe
      refine fadd5 W2 p b3 b h lh _ (fun W => W = W2.drew) (fun W => FIND W B p v' (some b) f (n + 1) ∧ FSTP w W p (.slice a n c) (some b) v' (some b) ∧ Has W b3 (CELLS h).toArray 30) rfl ?_ ?_ ?_ (fun _ _ _ _ _ h => h) ?_
      · rintro W rfl
        exact ⟨F3.out.box.cell 1, by rw [← hfn]; exact has_rangef F3.out.hash⟩
      · rintro W ⟨k1, k2, k3⟩
        exact ⟨k1.box.cell 1, has_rangef k3⟩
      · rintro W rfl
        have F4 : FMID w W2.drew B p (.slice a n c) v' (some b) (some b) f n b3 := ⟨F3.out.box, F3.out.own, ⟨F3.out.step.os, F3.out.step.tape, F3.out.step.output, F3.out.step.size, F3.out.step.block, F3.out.step.foot⟩, F3.out.hash, F3.out.map, F3.out.ne⟩
        obtain ⟨W4, r1, r2, r3, r4⟩ := F4.last hn hfi hB
        rw [hfn] at r1 r4
        exact ⟨W4, r1, r2, r3, r4⟩
      · rintro W4 ⟨r1, r2, -⟩
        have R : Aside (FIND W4 B p v' (some b) f (n + 1) ∧ FSTP w W4 p (.slice a n c) (some b) v' (some b)) := ⟨r1, r2⟩
        have eu := EQ.out
        clear r1 r2 F3
        go_wp2
        go_ret
        exact ⟨v', some b, rfl, R.out.1, R.out.2⟩
end Go.Proofs.Ytlbcnaenhghieaa

/- The hash at an index. -/
namespace Go.Proofs.Ytlbcnaenhghieaa
open Go.RowKit Go.Maps
set_option maxRecDepth 100000

theorem zeroHashF (w : World) : (zeroValue 30).run Try.prog w = .ok (.agg ZARR) w := by kernel_rfl
theorem store_cellsF {w : World} {g : Nat} {x y : List Int} (h : Has w g (CELLS x).toArray 30) (hx : x.length = 32) (hy : y.length = 32) : (storeCells ⟨g, 0, none⟩ (CELLS y) 0).run Try.prog w = .ok () (w.setRow g (CELLS y).toArray) := by
  have := run_storeCells_from (P := Try.prog) g 30 (CELLS y) 0 _ w h (by simp [CELLS, hx, hy]) (CELLS_one y)
  simpa using this
theorem setrow_below {B g : Nat} {w w' : World} {cs : Array Value} (h : Below B w w') (hg : B ≤ g) : Below B w (w'.setRow g cs) := below_row h hg _
set_option maxHeartbeats 2000000 in
theorem find_leaf_no {w : World} {B p n : Nat} {v : Value} {m : Option Nat} {f : Nat → List Int} (H : FIND w B p v m f n) (hn : n < 100000) (i : Nat) (hi : n ≤ i) (_hi : i < 2 ^ 64) : Calls Try.prog 11 #[.pointer (some ⟨p, 0, none⟩), .int .u64 (i : Int)] w fun e w' => e = .returned (.tuple #[.agg ZARR, .int .i64 32]) ∧ Below w.heap.size w w' := by
  have hz := zeroHashF
  obtain ⟨w0, hw0⟩ : ∃ w0, w.alloc (.cells ZARR 30) = w0 := ⟨_, rfl⟩
  have hb0 : Below w.heap.size w w0 := by rw [← hw0]; exact (Below.refl _ _).alloc (Nat.le_refl _) _
  have h40 : Has w0 w.heap.size (CELLS ZND).toArray 30 := by rw [← hw0]; exact Has.new w _ _
  have hst : (storeCells ⟨w.heap.size, 0, none⟩ ZARR.toList 0).run Try.prog w0 = .ok () (w0.setRow w.heap.size ZARR) := store_cellsF h40 (y := ZND) rfl rfl
  have hzs : ZARR.size = 32 := rfl
  have hs := find_size (H.keep hb0) (by omega)
  have hge : (n : Int) ≤ (i : Int) := by omega
  have hbt : Try.prog.built 30 [] = some ZARR := by kernel_rfl
  rw [ZARR_eq] at h40
  have hzi : (Try.prog.info? 30).map (·.size) = some ZARR.size := by kernel_rfl
  generalize ZARR = Z at *
  clear H hn hi
  go_enter Try.func11, Try.ntmps11
  go_wp2_with fail
  refine hs.mono ?_
  rintro e w1 ⟨rfl, rfl⟩
  clear hs
  go_wp2
  refine bodyPost_ret (v := .tuple #[.agg Z, .int .i64 32]) ?_ rfl ⟨rfl, setrow_below hb0 (Nat.le_refl _)⟩
  exact results_hash rfl _ _ w.heap.size 30 _ (0, 0) _ _ rfl (h40.row _) _ rfl Try.underlying30 hzi
set_option maxHeartbeats 2000000 in
theorem find_leaf_yes {w : World} {B p n : Nat} {v : Value} {m : Option Nat} {f : Nat → List Int} (H : FIND w B p v m f n) (hn : n < 100000) (i : Nat) (hi : i < n) : Calls Try.prog 11 #[.pointer (some ⟨p, 0, none⟩), .int .u64 (i : Int)] w fun e w' => e = .returned (.tuple #[.agg (CELLS (f i)).toArray, .int .i64 0]) ∧ Below w.heap.size w w' := by
  obtain ⟨a, c, rfl, hc, hg⟩ := H.slice
  obtain ⟨g, rfl, -⟩ := hg (by omega)
  have hz := zeroHashF
  obtain ⟨w0, hw0⟩ : ∃ w0, w.alloc (.cells ZARR 30) = w0 := ⟨_, rfl⟩
  have hb0 : Below w.heap.size w w0 := by rw [← hw0]; exact (Below.refl _ _).alloc (Nat.le_refl _) _
  have h40 : Has w0 w.heap.size (CELLS ZND).toArray 30 := by rw [← hw0]; exact Has.new w _ _
  have H0 := H.keep hb0
  have L : Aside ((f i).length = 32) := (H.is i hi).1
  have hst := store_cellsF h40 (y := f i) rfl L.out
  have hzs : (CELLS (f i)).length = 32 := by simp [CELLS, L.out]
  have hs := find_size H0 (by omega)
  have x0 := H0.box.cell 0
  have hh : w0.rangeAt g (i * 33) (CELLS (f i)) := H0.hash hi
  have hlt : (i : Int) < (n : Int) := by omega
  have hge : ¬ (n : Int) ≤ (i : Int) := by omega
  rw [ZARR_eq] at h40
  generalize f i = h at *
  generalize ZARR = Z at *
  clear H hn hi H0
  go_enter Try.func11, Try.ntmps11
  go_wp2_with fail
  refine hs.mono ?_
  rintro e w1 ⟨rfl, rfl⟩
  clear hs
  go_wp2_with (first
    | (refine wpList_load_mid rfl 30 (.tmp 17) rfl g (i * 33) rfl (CELLS h) _ hh Try.underlying30 rfl (info_cells L.out) ?_)
    | fail)
  refine bodyPost_ret (v := .tuple #[.agg (CELLS h).toArray, .int .i64 0]) ?_ rfl ⟨rfl, setrow_below hb0 (Nat.le_refl _)⟩
  exact results_hash rfl _ _ w.heap.size 30 _ (0, 0) _ _ rfl (h40.row _) _ rfl Try.underlying30 (by simpa using info_cells L.out)
end Go.Proofs.Ytlbcnaenhghieaa
