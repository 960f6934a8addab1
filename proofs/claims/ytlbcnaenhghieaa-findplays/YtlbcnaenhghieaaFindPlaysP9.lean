/- Texts of FindPlays, one behind the other: FindRef, FindTwice. -/
import Derived.Test.YtlbcnaenhghieaaFindPlaysP7
import Derived.Test.YtlbcnaenhghieaaFindPlaysP8
/- The document's find: a list of hashes. -/
namespace Go.Proofs.Ytlbcnaenhghieaa
open Go.RowKit
set_option maxRecDepth 100000

/-- the first n hashes, one behind the other. -/
def FLS (f : Nat → List Int) (n : Nat) : List Int := (List.range n).flatMap f
theorem FLS_succ (f : Nat → List Int) (n : Nat) : FLS f (n + 1) = FLS f n ++ f n := by simp [FLS, List.range_succ]
theorem FLS_congr {f g : Nat → List Int} {n : Nat} (e : ∀ i, i < n → f i = g i) : FLS f n = FLS g n := by
  unfold FLS
  rw [List.flatMap_def, List.flatMap_def]
  congr 1
  exact List.map_congr_left fun i hi => e i (List.mem_range.1 hi)
theorem FLS_length {f : Nat → List Int} : ∀ {n : Nat}, (∀ i, i < n → FISH (f i)) → (FLS f n).length = 32 * n
  | 0, _ => rfl
  | n + 1, h => by rw [FLS_succ, List.length_append, FLS_length fun i hi => h i (by omega), (h n (by omega)).1]; omega
theorem FLS_range {f : Nat → List Int} : ∀ {n : Nat}, (∀ i, i < n → FISH (f i)) → ∀ x ∈ FLS f n, 0 ≤ x ∧ x ≤ 255
  | 0, _, x, h => by simp [FLS] at h
  | n + 1, h, x, hx => by
    rw [FLS_succ] at hx
    rcases List.mem_append.1 hx with hx | hx
    · exact FLS_range (fun i hi => h i (by omega)) x hx
    · exact (h n (by omega)).2 x hx
theorem FLS_hash {f : Nat → List Int} : ∀ {n i : Nat}, (∀ i, i < n → FISH (f i)) → i < n → HSH (FLS f n) i = f i
  | 0, i, _, hi => by omega
  | n + 1, i, h, hi => by
    have hl := FLS_length (f := f) (n := n) fun j hj => h j (by omega)
    unfold HSH
    rw [FLS_succ]
    by_cases e : i = n
    · subst e
      rw [List.drop_append_of_le_length (by omega), List.drop_of_length_le (by omega), List.nil_append, List.take_of_length_le (by rw [(h i (by omega)).1]; exact Nat.le_refl _)]
    · rw [List.drop_append_of_le_length (by omega), List.take_append_of_le_length (by rw [List.length_drop]; omega)]
      exact FLS_hash (fun j hj => h j (by omega)) (by omega)
theorem FLS_take {f : Nat → List Int} {n k : Nat} (h : ∀ i, i < n → FISH (f i)) (hk : k ≤ n) : (FLS f n).take (32 * k) = FLS f k := by
  induction n with
  | zero =>
    obtain rfl : k = 0 := by omega
    rfl
  | succ n ih =>
    by_cases e : k = n + 1
    · subst e
      rw [List.take_of_length_le (by rw [FLS_length h]; exact Nat.le_refl _)]
    · have hl := FLS_length (f := f) (n := n) fun j hj => h j (by omega)
      rw [FLS_succ, List.take_append_of_le_length (by omega)]
      exact ih (fun i hi => h i (by omega)) (by omega)
/-- the document's find lies there. -/
structure RFIND (w : World) (B p : Nat) (v : Value) (f : Nat → List Int) (n : Nat) : Prop where
  box : Has w p #[v] 28
  own : w.ownsRow B 30 32 v n (CELLS (FLS f n))
  is : ∀ i, i < n → FISH (f i)
  base : B ≤ p
  ne : v.ownBlock ≠ some p
theorem RFIND.lt {w : World} {B p n : Nat} {v : Value} {f : Nat → List Int} (H : RFIND w B p v f n) : ∀ k, FFT p v none k → B ≤ k ∧ k < w.heap.size := by
  rintro k (rfl | h | h)
  · exact ⟨H.base, H.box.lt⟩
  · exact H.own.lt k h
  · cases h
theorem RFIND.at {w w' : World} {B p n : Nat} {v : Value} {f : Nat → List Int} (H : RFIND w B p v f n) (hk : ∀ k, FFT p v none k → w'.heap[k]? = w.heap[k]?) : RFIND w' B p v f n :=
  ⟨(hk p (.inl rfl)).trans H.box, own_heap H.own fun k e => hk k (.inr (.inl e)), H.is, H.base, H.ne⟩
theorem RFIND.keep {w w' : World} {B p n : Nat} {v : Value} {f : Nat → List Int} (H : RFIND w B p v f n) (hb : Below w.heap.size w w') : RFIND w' B p v f n := H.at fun k e => hb.block k (H.lt k e).2
theorem RFIND.congr {w : World} {B p n : Nat} {v : Value} {f g : Nat → List Int} (H : RFIND w B p v f n) (e : ∀ i, i < n → f i = g i) : RFIND w B p v g n :=
  ⟨H.box, by rw [← FLS_congr e]; exact H.own, fun i hi => by rw [← e i hi]; exact H.is i hi, H.base, H.ne⟩
theorem RFIND.slice {w : World} {B p n : Nat} {v : Value} {f : Nat → List Int} (H : RFIND w B p v f n) : ∃ a c, v = .slice a n c ∧ n ≤ c ∧ (0 < n → ∃ g, a = some ⟨g, 0, none⟩) := by
  rcases H.own.2 with ⟨rfl, rfl⟩ | ⟨g, cap, cur, rfl, hB, h, hc, _⟩
  · exact ⟨none, 0, rfl, Nat.le_refl _, fun h => by omega⟩
  · exact ⟨_, cap, rfl, hc, fun _ => ⟨g, rfl⟩⟩
theorem RFIND.flat {w : World} {B p n c : Nat} {a : Option Addr} {f : Nat → List Int} (H : RFIND w B p (.slice a n c) f n) : Flat w a n (FLS f n) := own_flat H.own (FLS_range H.is)
theorem RFIND.hash {w : World} {B p n c g : Nat} {f : Nat → List Int} (H : RFIND w B p (.slice (some ⟨g, 0, none⟩) n c) f n) {i : Nat} (hi : i < n) : w.rangeAt g (i * 32) (CELLS (f i)) := by
  have := H.flat.at hi
  rw [FLS_hash H.is hi, Nat.zero_add] at this
  exact this
set_option maxHeartbeats 4000000 in
theorem find_radd {w : World} {B p n : Nat} {v : Value} {f : Nat → List Int} (H : RFIND w B p v f n) (hh : FISH (f n)) (hn : n < 100000) : Calls Try.prog 7 #[.pointer (some ⟨p, 0, none⟩), .agg (CELLS (f n)).toArray] w fun e w' => ∃ v', e = .returned (.int .u64 (n : Int)) ∧ RFIND w' B p v' f (n + 1) ∧ FSTP w w' p v none v' none := by
  obtain ⟨a, c, rfl, -⟩ := H.slice
  obtain ⟨w0, hw0⟩ : ∃ w0, w.alloc (.cells (CELLS (f n)).toArray 30) = w0 := ⟨_, rfl⟩
  obtain ⟨b3, hb3⟩ : ∃ b, w.heap.size = b := ⟨_, rfl⟩
  obtain ⟨h, hfn⟩ : ∃ h, f n = h := ⟨_, rfl⟩
  have hb0 : Below w.heap.size w w0 := by rw [← hw0]; exact (Below.refl _ _).alloc (Nat.le_refl _) _
  have k3 : Has w0 b3 (CELLS h).toArray 30 := by rw [← hw0, ← hb3, ← hfn]; exact Has.new _ _ _
  have H0 := H.keep hb0
  have hp := H.box.lt
  have hB := H.base
  have lh : h.length = 32 := by rw [← hfn]; exact hh.1
  have hfi : ∀ i, i < n + 1 → FISH (f i) := fun i hi => by
    by_cases e : i = n
    · rw [e]; exact hh
    · exact H.is i (by omega)
  have hne := H.ne
  have hx := H0.box
  have ho := H0.own
  have hFLT := H.lt
  have FIN : Aside (∀ g q W W', Below w0.heap.size w0 W → W'.ownsRow B 30 32 (.slice (some ⟨g, 0, none⟩) (n + 1) q) (n + 1) (CELLS (FLS f n) ++ CELLS h) → W.grownBy W' (Value.slice a n c).ownBlock → ((Value.slice a n c).ownBlock = some g ∨ g = W.heap.size) → RFIND (W'.setCell ⟨p, 0, none⟩ (.slice (some ⟨g, 0, none⟩) (n + 1) q)) B p (.slice (some ⟨g, 0, none⟩) (n + 1) q) f (n + 1) ∧ FSTP w (W'.setCell ⟨p, 0, none⟩ (.slice (some ⟨g, 0, none⟩) (n + 1) q)) p (.slice a n c) none (.slice (some ⟨g, 0, none⟩) (n + 1) q) none) := fun g q W W' hb ho hg hat => by
    have hbw : Below w.heap.size w W := hb0.trans (hb.mono hb0.size)
    have hsz := hbw.size
    have hgg : g ≠ p := fun e => by
      subst e
      rcases hat with hat | hat
      · exact hne hat
      · omega
    refine ⟨⟨?_, ?_, hfi, hB, ?_⟩, ?_⟩
    · have hB' : Has W' p #[.slice a n c] 28 := (hg.block p (by omega) (fun e => hne e.symm)).trans ((hb.block p (by have := hb0.size; omega)).trans hx)
      exact hB'.set 0 _
    · refine own_heap (xs := CELLS (FLS f (n + 1))) ?_ fun k e => Below.heap_setCell _ _ _ k (fun e2 => hgg (by
        have e : g = k := by simpa [Value.ownBlock] using e
        rw [e]
        exact e2))
      rw [FLS_succ, CELLS_append, hfn]
      exact ho
    · intro e
      exact hgg (by simpa [Value.ownBlock] using e)
    · refine ⟨hg.os.trans hbw.os, hg.tape.trans hbw.tape, hg.output.trans hbw.output, by have := hg.size; simp; omega, fun k h1 h2 => (Below.heap_setCell _ _ _ k (fun e => h2 (.inl e))).trans ((hg.block k (by omega) (fun e => h2 (.inr (.inl e.symm)))).trans (hbw.block k h1)), ?_⟩
      rintro k (e | e | e)
      · exact .inl (.inl e)
      · have e : g = k := by simpa [Value.ownBlock] using e
        subst e
        rcases hat with hat | hat
        · exact .inl (.inr (.inl hat))
        · exact .inr (by omega)
      · cases e
  have EQ : Aside (IntKind.u64.wrap (n : Int) = (n : Int) ∧ wrap64 (((n + 1 : Nat) : Int) - 1) = (n : Int)) := ⟨u64f (by omega), by unfold wrap64; omega⟩
  have hn5 : n ≤ 100000 := by omega
  have h3o : (Value.slice a n c).ownBlock ≠ some b3 := fun e => by have := (H.own.lt b3 e).2; omega
  have h3p : b3 ≠ p := by omega
  have hp0 : p < w0.heap.size := Nat.lt_of_lt_of_le hp hb0.size
  have hBw : B ≤ w0.heap.size := by omega
  rw [hfn] at hw0 ⊢
  clear H H0 hb0 hp hFLT
  go_enter Try.func7, Try.ntmps7
  go_upto_region 1 with fail
  clear hw0 hb3
  refine fradd1 w0 p b3 n c B a h lh (CELLS (FLS f n)) hn5 (fun W => Below w0.heap.size w0 W) (fun z W => Below w0.heap.size w0 W ∧ Has W z (CELLS h).toArray 30) (fun z g q W' => ∃ W, Below w0.heap.size w0 W ∧ W'.ownsRow B 30 32 (.slice (some ⟨g, 0, none⟩) (n + 1) q) (n + 1) (CELLS (FLS f n) ++ CELLS h) ∧ W.grownBy W' (Value.slice a n c).ownBlock ∧ ((Value.slice a n c).ownBlock = some g ∨ g = W.heap.size)) (fun W2 => ∃ g q W W', Below w0.heap.size w0 W ∧ W'.ownsRow B 30 32 (.slice (some ⟨g, 0, none⟩) (n + 1) q) (n + 1) (CELLS (FLS f n) ++ CELLS h) ∧ W.grownBy W' (Value.slice a n c).ownBlock ∧ ((Value.slice a n c).ownBlock = some g ∨ g = W.heap.size) ∧ W2 = W'.setCell ⟨p, 0, none⟩ (.slice (some ⟨g, 0, none⟩) (n + 1) q)) (Below.refl _ _).drew ?_ ?_ ?_ ?_ ?_ ?_ ?_ ?_ ?_ ?_ ?_ ?_ ?_ (fun _ _ _ _ _ h => h) ?_
  · exact fun W h => has_rangef (k3.keep h)
  · exact fun z W h => has_rangef (k3.keep h.1)
  · rintro z g q W' ⟨W, h1, h2, h3, h4⟩
    exact has_rangef ((h3.block b3 (Nat.lt_of_lt_of_le k3.lt h1.size) (fun e => h3o e.symm)).trans ((h1.block b3 k3.lt).trans k3))
  · rintro W2 ⟨g, q, W, W', h1, h2, h3, h4, rfl⟩
    exact has_rangef ((Below.heap_setCell _ _ _ b3 h3p).trans ((h3.block b3 (Nat.lt_of_lt_of_le k3.lt h1.size) (fun e => h3o e.symm)).trans ((h1.block b3 k3.lt).trans k3)))
  · exact fun W h => (hx.keep h).cell 0
  · exact fun z W h => (hx.keep h.1).cell 0
  · exact fun W h => ⟨h.alloc h.size _, Has.new _ _ _⟩
  · exact fun z W h => own_heap ho fun k e => h.1.block k (ho.lt k e).2
  · exact fun z W h => h.2
  · exact fun z W h => Nat.le_trans hBw h.1.size
  · exact fun z W g q W' h h1 h2 h3 => ⟨W, h.1, h1, h2, h3⟩
  · rintro z g q W' ⟨W, h1, h2, h3, h4⟩
    have := (h3.block p (Nat.lt_of_lt_of_le hp0 h1.size) (fun e => hne e.symm)).trans ((h1.block p hp0).trans hx)
    have hB : Has W' p #[.slice a n c] 28 := this
    exact ⟨hB.cell 0, hB.frozen 0⟩
  · exact fun z g q W' ⟨W, h1, h2, h3, h4⟩ => ⟨g, q, W, W', h1, h2, h3, h4, rfl⟩
  · rintro z g q W2 ⟨g', q', W, W', h1, h2, h3, h4, rfl⟩
    obtain ⟨F1, F2⟩ := FIN.out g' q' W W' h1 h2 h3 h4
    generalize W'.setCell ⟨p, 0, none⟩ (.slice (some ⟨g', 0, none⟩) (n + 1) q') = W2 at *
    have x1 := F1.box.cell 0
    have FF : Aside (RFIND W2 B p (.slice (some ⟨g', 0, none⟩) (n + 1) q') f (n + 1) ∧ FSTP w W2 p (.slice a n c) none (.slice (some ⟨g', 0, none⟩) (n + 1) q') none) := ⟨F1, F2⟩
    have eu := EQ.out.1
    have ew := EQ.out.2
    clear F1 F2 FIN h1 h2 h3 h4 hx ho
    go_wp2
    go_ret
    exact ⟨_, rfl, FF.out.1, FF.out.2⟩
set_option maxHeartbeats 4000000 in
theorem find_rat {w : World} {B p n : Nat} {v : Value} {f : Nat → List Int} (H : RFIND w B p v f n) (hn : n ≤ 100000) {h : List Int} (hh : FISH h) : Calls Try.prog 10 #[.pointer (some ⟨p, 0, none⟩), .agg (CELLS h).toArray] w fun e w' => ∃ a c, e = .returned (.slice a (ATS f n h).length c) ∧ w'.ownsRow w.heap.size 31 1 (.slice a (ATS f n h).length c) (ATS f n h).length (UCELLS (ATS f n h)) ∧ Below w.heap.size w w' := by
  obtain ⟨a, c, rfl, hac, hg⟩ := H.slice
  obtain ⟨w0, hw0⟩ : ∃ w0, w.alloc (.cells (CELLS h).toArray 30) = w0 := ⟨_, rfl⟩
  obtain ⟨b3, hb3⟩ : ∃ b, w.heap.size = b := ⟨_, rfl⟩
  have hb0 : Below w.heap.size w w0 := by rw [← hw0]; exact (Below.refl _ _).alloc (Nat.le_refl _) _
  have k3 : Has w0 b3 (CELLS h).toArray 30 := by rw [← hw0, ← hb3]; exact Has.new _ _ _
  have HA : Aside (RFIND w0 B p (.slice a n c) f n ∧ n ≤ 100000 ∧ Below w.heap.size w w0 ∧ h.length = 32 ∧ w.heap.size = b3 ∧ Has w0 b3 (CELLS h).toArray 30 ∧ (0 < n → ∃ g, a = some ⟨g, 0, none⟩)) := ⟨H.keep hb0, hn, hb0, hh.1, hb3, k3, hg⟩
  clear H hn hb0 k3 hh hg hac
  go_enter Try.func10, Try.ntmps10
  go_wp2_with fail
  clear hw0 hb3
  go_loopg [5, 6] n (fun q s5 s6 wx => ∃ (i k : Nat) (oa : Option Addr) (oc : Nat), s5 = .slice oa k oc ∧ s6 = .int .i64 (i : Int) ∧ Aside (i + q = n ∧ k = (ATS f i h).length ∧ Below w0.heap.size w0 wx ∧ wx.ownsRow w0.heap.size 31 1 (.slice oa k oc) k (UCELLS (ATS f i h))))
  case atStart => exact ⟨0, 0, none, 0, rfl, rfl, by omega, rfl, Below.refl _ _, ⟨rfl, .inl ⟨rfl, rfl⟩⟩⟩
  case round =>
    obtain ⟨i, k, oa, oc, rfl, rfl, A⟩ := hrel
    have RF : RFIND wr B p (.slice a n c) f n := HA.out.1.keep A.out.2.2.1
    have x0 := RF.box.cell 0
    cases gk with
    | zero =>
      obtain rfl : i = n := A.out.1
      have hlt : ¬ (i : Int) < (i : Int) := by omega
      have FIN : Aside (∃ a c, Ending.returned (.slice oa k oc) = .returned (.slice a (ATS f i h).length c) ∧ wr.ownsRow w.heap.size 31 1 (.slice a (ATS f i h).length c) (ATS f i h).length (UCELLS (ATS f i h)) ∧ Below w.heap.size w wr) :=
        ⟨oa, oc, by rw [A.out.2.1], by rw [← A.out.2.1]; exact own_mono A.out.2.2.2 HA.out.2.2.1.size, HA.out.2.2.1.trans (A.out.2.2.1.mono HA.out.2.2.1.size)⟩
      clear A RF HA
      go_wp2
      go_ret
      exact FIN.out
    | succ q =>
      have hin : i < n := by have := A.out.1; omega
      have hlt : (i : Int) < (n : Int) := by omega
      obtain ⟨g, rfl⟩ := HA.out.2.2.2.2.2.2 (by omega)
      have hE : (f i).length = 32 := (RF.is i hin).1
      have hr := RF.hash hin
      have JJ : Aside (∀ W, W = wr.drew → W.cell? ⟨p, 0, none⟩ = some (.slice (some ⟨g, 0, none⟩) n c) ∧ W.rangeAt b3 0 (CELLS h) ∧ W.rangeAt g (i * 32) (CELLS (f i))) := by
        rintro W rfl
        exact ⟨x0, has_rangef (HA.out.2.2.2.2.2.1.keep A.out.2.2.1.drew), hr⟩
      have R : Aside (i + 1 + q = n ∧ k = (ATS f i h).length ∧ Below w0.heap.size w0 wr.drew ∧ wr.drew.ownsRow w0.heap.size 31 1 (.slice oa k oc) k (UCELLS (ATS f i h)) ∧ k ≤ 100000) := ⟨(Nat.add_right_comm i 1 q).trans A.out.1, A.out.2.1, A.out.2.2.1.drew, A.out.2.2.2, by have := ATS_length f h i; have := A.out.2.1; have := HA.out.2.1; omega⟩
      have ei : wrap64 ((i : Int) + 1) = ((i + 1 : Nat) : Int) := by have := HA.out.2.1; unfold wrap64; omega
      have hiu : IntKind.u64.wrap (i : Int) = (i : Int) := u64f (by have := HA.out.2.1; omega)
      have h32 := HA.out.2.2.2.1
      clear A RF hr hin
      go_upto_region 5 with fail
      refine frat5 wr p b3 g n c i hlt h (f i) h32 hE (fun W => W = wr.drew) rfl (fun W hW => JJ.out W hW) (fun _ _ _ _ _ h => h) ?_
      rintro W rfl
      clear JJ x0
      generalize wr.drew = W2 at *
      by_cases he : f i = h
      · have hd : decide (f i = h) = true := decide_eq_true he
        have eA : ATS f (i + 1) h = ATS f i h ++ [i] := by rw [ATS, if_pos he]
        rw [hd]
        have hk5 : k ≤ 2 ^ 30 := by have := R.out.2.2.2.2; omega
        clear hd he
        go_wp2_with (first
          | (at_builtin; refine app_num _ rfl (.tmp 25) (.tmp 28) rfl w0.heap.size (.slice oa k oc) k (ATS f i h) rfl (R.out.2.2.2.1.alloc _) W2.heap.size 1 i rfl ((Has.new _ _ _).cell 0) hk5 (by have := R.out.2.2.1.size; simp; omega) ?_; intro g3 c3 w3 hown hgrow hg3
             have Z : Aside (Below w0.heap.size w0 w3 ∧ w3.ownsRow w0.heap.size 31 1 (.slice (some ⟨g3, 0, none⟩) (k + 1) c3) (k + 1) (UCELLS (ATS f (i + 1) h))) := ⟨(R.out.2.2.1.alloc R.out.2.2.1.size _).grown hgrow (by have := R.out.2.2.1.size; simp; omega) (fun k e => (R.out.2.2.2.1.lt k e).1), by rw [eA]; exact hown⟩
             clear hown hgrow hg3)
          | fail)
        go_wp2
        go_roundg q
        case measure => exact Nat.lt_succ_self _
        case rel => exact ⟨i + 1, k + 1, some ⟨g3, 0, none⟩, c3, rfl, by first | rfl | rw [ei], R.out.1, by rw [eA, List.length_append, ← R.out.2.1]; rfl, Z.out⟩
      · have hd : decide (f i = h) = false := decide_eq_false he
        have eA : ATS f (i + 1) h = ATS f i h := by rw [ATS, if_neg he, List.append_nil]
        rw [hd]
        clear hd he
        go_wp2
        go_roundg q
        case measure => exact Nat.lt_succ_self _
        case rel => exact ⟨i + 1, k, oa, oc, rfl, by first | rfl | rw [ei], R.out.1, by rw [eA]; exact R.out.2.1, R.out.2.2.1, by rw [eA]; exact R.out.2.2.2.1⟩
end Go.Proofs.Ytlbcnaenhghieaa

/- The hashes that stand at more than one index. -/
namespace Go.Proofs.Ytlbcnaenhghieaa
open Go.RowKit Go.Maps
set_option maxRecDepth 100000

theorem TWS_flat {f : Nat → List Int} {n : Nat} : ∀ {m : Nat}, (∀ i, i < m → FISH (f i)) → (TWS f n m).flatten.length = 32 * (TWS f n m).length
  | 0, _ => rfl
  | m + 1, h => by
    rw [TWS, List.flatten_append, List.length_append, List.length_append, TWS_flat fun i hi => h i (by omega)]
    split
    · simp [(h m (by omega)).1]; omega
    · simp
/-- while the list is gone through. -/
structure FTW (w wx : World) (f : Nat → List Int) (n i k : Nat) (oa : Option Addr) (oc : Nat) : Prop where
  len : k = (TWS f n i).length
  bel : Below w.heap.size w wx
  own : wx.ownsRow w.heap.size 30 32 (.slice oa k oc) k (CELLS (TWS f n i).flatten)
theorem FTW.skip {w wx : World} {f : Nat → List Int} {n i k : Nat} {oa : Option Addr} {oc : Nat} (h : FTW w wx f n i k oa oc) (hc : ¬ (LSTI f i (f i) = -1 ∧ LSTI f n (f i) ≠ (i : Int))) : FTW w wx f n (i + 1) k oa oc := by
  have e : TWS f n (i + 1) = TWS f n i := by rw [TWS, if_neg hc, List.append_nil]
  exact ⟨by rw [e]; exact h.len, h.bel, by rw [e]; exact h.own⟩
theorem FTW.below {w wx wy : World} {f : Nat → List Int} {n i k : Nat} {oa : Option Addr} {oc : Nat} (h : FTW w wx f n i k oa oc) (hb : Below wx.heap.size wx wy) : FTW w wy f n i k oa oc :=
  ⟨h.len, h.bel.trans (hb.mono h.bel.size), own_heap h.own fun k e => hb.block k (h.own.lt k e).2⟩
set_option maxHeartbeats 4000000 in
theorem find_twice {w : World} {B p n : Nat} {v : Value} {m : Option Nat} {f : Nat → List Int} (H : FIND w B p v m f n) (hn : n ≤ 100000) : Calls Try.prog 23 #[.pointer (some ⟨p, 0, none⟩)] w fun e w' => ∃ a c, e = .returned (.slice a (TWS f n n).length c) ∧ w'.ownsRow w.heap.size 30 32 (.slice a (TWS f n n).length c) (TWS f n n).length (CELLS (TWS f n n).flatten) ∧ Below w.heap.size w w' := by
  obtain ⟨a, c, rfl, -⟩ := H.slice
  have x0 := H.box.cell 0
  have HA : Aside (FIND w B p (.slice a n c) m f n ∧ n ≤ 100000) := ⟨H, hn⟩
  clear H hn
  go_enter Try.func23, Try.ntmps23
  go_wp2_with fail
  clear x0
  go_loopg [3, 4, 5, 11] n (fun q s3 _ _ s11 wx => ∃ (i k : Nat) (oa : Option Addr) (oc : Nat), s3 = .slice oa k oc ∧ s11 = .int .i64 (i : Int) ∧ Aside (i + q = n ∧ FTW w wx f n i k oa oc))
  case atStart => exact ⟨0, 0, none, 0, rfl, rfl, by omega, rfl, Below.refl _ _, ⟨rfl, .inl ⟨rfl, rfl⟩⟩⟩
  case round =>
    obtain ⟨i, k, oa, oc, rfl, rfl, A⟩ := hrel
    cases gk with
    | zero =>
      obtain rfl : i = n := A.out.1
      have hlt : ¬ (i : Int) < (i : Int) := by omega
      have Z : Aside (k = (TWS f i i).length ∧ Below w.heap.size w wr ∧ wr.ownsRow w.heap.size 30 32 (.slice oa k oc) k (CELLS (TWS f i i).flatten)) := ⟨A.out.2.len, A.out.2.bel, A.out.2.own⟩
      clear A
      go_wp2
      go_ret
      obtain ⟨z1, z2, z3⟩ := Z.out
      subst z1
      exact ⟨oa, oc, rfl, z3, z2⟩
    | succ q =>
      have hin : i < n := by have := A.out.1; omega
      have hlt : (i : Int) < (n : Int) := by omega
      obtain ⟨g, rfl, -⟩ : ∃ g, a = some ⟨g, 0, none⟩ ∧ True := by
        rcases HA.out.1.own.2 with ⟨e, e0⟩ | ⟨g, cap, cur, e, _⟩
        · omega
        · cases e
          exact ⟨g, rfl, trivial⟩
      obtain ⟨b, rfl, -⟩ : ∃ b, m = some b ∧ True := by
        rcases HA.out.1.map with ⟨_, _, e⟩ | ⟨b, e, _⟩
        · omega
        · exact ⟨b, e, trivial⟩
      have F := HA.out.1.keep A.out.2.bel
      have hh := F.is i hin
      have y1 : wr.rangeAt g (i * 33) (ENT f i) := F.entry hin
      have hi := info_ent' hh
      have he := ENT_length hh
      obtain ⟨bx, hbx⟩ : ∃ b, wr.heap.size = b := ⟨_, rfl⟩
      obtain ⟨w1, hw1⟩ : ∃ w1, wr.alloc (.cells (ENT f i).toArray 55) = w1 := ⟨_, rfl⟩
      have k0 : Has (wr.alloc (.cells ZENT 55)) bx (CELLS ZND ++ [Value.int .i64 0]).toArray 55 := by rw [← hbx, ← ZENT_eq]; exact Has.new _ _ _
      have hst := store_ent k0 (y := ENT f i) rfl he (ENT_one f i)
      have k1 : Has w1 bx (ENT f i).toArray 55 := by rw [← hw1, ← hbx]; exact Has.new _ _ _
      rw [← hbx, World.setRow_alloc_new, hw1, hbx] at hst
      have hb1 : Below wr.heap.size wr w1 := by rw [← hw1]; exact (Below.refl _ _).alloc (Nat.le_refl _) _
      have F1 : FIND w1.drew B p (.slice (some ⟨g, 0, none⟩) n c) (some b) f n := F.keep hb1.drew
      have T1 := A.out.2.below hb1.drew
      have hz := zeroEnt
      obtain ⟨l, hl⟩ : ∃ l, LSTI f i (f i) = l := ⟨_, rfl⟩
      obtain ⟨L, hL⟩ : ∃ L, LSTI f n (f i) = L := ⟨_, rfl⟩
      have x32 : w1.cell? ⟨bx, 32, none⟩ = some (.int .i64 l) := by
        rw [k1.cell, List.getElem?_toArray, ENT, List.getElem?_append_right (by simp [CELLS, hh.1]), hl]
        simp [CELLS, hh.1]
      have hr : w1.rangeAt bx 0 (CELLS (f i)) := fun j u hj => by
        rw [Nat.zero_add, k1.cell, List.getElem?_toArray, ENT, List.getElem?_append_left (List.getElem?_eq_some_iff.1 hj).1]
        exact hj
      have hLn : LSTI f n (f i) ≠ -1 := fun e => LSTI_none.1 e i hin rfl
      have hget : (Instr.lookup 50 (.map (some b)) (.agg (CELLS (f i)).toArray) false).run Try.prog w1.drew = .ok (.int .i64 L) w1.drew := by
        rcases F1.map with ⟨e, _⟩ | ⟨b', e, _, h2⟩
        · cases e
        · cases e
          rw [← hL]
          exact h2.get hh hLn
      have JJ : Aside (∀ W, W = w1.drew → W.cell? ⟨p, 1, none⟩ = some (.map (some b)) ∧ W.rangeAt bx 0 (CELLS (f i)) ∧ W.cell? ⟨bx, 32, none⟩ = some (.int .i64 l) ∧ (Instr.lookup 50 (.map (some b)) (.agg (CELLS (f i)).toArray) false).run Try.prog W = .ok (.int .i64 L) W) := by
        rintro W rfl
        exact ⟨F1.box.cell 1, hr, x32, hget⟩
      have RR : Aside (FTW w w1.drew f n i k oa oc ∧ i + 1 + q = n ∧ LSTI f i (f i) = l ∧ LSTI f n (f i) = L ∧ (f i).length = 32 ∧ n ≤ 100000 ∧ Has w1.drew bx (ENT f i).toArray 55) := ⟨T1, by have := A.out.1; omega, hl, hL, hh.1, HA.out.2, k1⟩
      have ei : wrap64 ((i : Int) + 1) = ((i + 1 : Nat) : Int) := by have := HA.out.2; unfold wrap64; omega
      have hrd : Aside (w1.drew.rangeAt bx 0 (CELLS (f i))) := hr
      have hEi : ENT f i = CELLS (f i) ++ [.int .i64 l] := by rw [ENT, hl]
      generalize ENT f i = E at *
      clear A F F1 T1 k0 k1 hb1 hget x32 hr hLn hw1 hl hL hin hEi
      go_upto_region 5 with (first
        | (refine wpList_load_mid rfl 55 (.tmp 14) rfl g (i * 33) rfl E _ y1 Try.underlying55 rfl (by simpa using hi) ?_)
        | fail)
      clear hst y1 hi hz
      by_cases hc : l = -1
      · by_cases hc2 : L = (i : Int)
        · refine ftwice5c w1 p bx (some b) (f i) RR.out.2.2.2.2.1 l L (i : Int) hc hc2 (fun W => W = w1.drew) rfl (fun W h => JJ.out W h) (fun _ _ _ _ _ h => h) ?_
          rintro W rfl
          have Z : Aside (FTW w w1.drew f n (i + 1) k oa oc) := RR.out.1.skip (fun h => h.2 (RR.out.2.2.2.1.trans hc2))
          clear JJ
          generalize w1.drew = W2 at *
          go_wp2
          go_roundg q
          case measure => exact Nat.lt_succ_self _
          case rel => exact ⟨i + 1, k, oa, oc, rfl, by rw [ei], RR.out.2.1, Z.out⟩
        · refine ftwice5b w1 p bx (some b) (f i) RR.out.2.2.2.2.1 l L (i : Int) hc hc2 (fun W => W = w1.drew) rfl (fun W h => JJ.out W h) (fun _ _ _ _ _ h => h) ?_
          rintro W rfl
          clear JJ
          generalize w1.drew = W2 at *
          have hkl : k ≤ 100000 := by have := RR.out.1.len; have := TWS_length f n i; have := RR.out.2.1; have := RR.out.2.2.2.2.2.1; omega
          have hb2 := RR.out.1.bel.size
          go_wp2_with (first
            | (refine wpList_load_mid rfl 30 (.tmp 31) rfl bx 0 rfl (CELLS (f i)) _ hrd.out Try.underlying30 rfl (info_cells RR.out.2.2.2.2.1) ?_)
            | (refine build_one _ rfl 26 30 (.tmp 32) rfl (CELLS (f i)).toArray rfl 32 _ _ Try.underlying26 info_hashv (by simp [CELLS, RR.out.2.2.2.2.1]) rfl (by decide) (by decide) ?_)
            | (at_builtin; refine app_hashm _ rfl (.tmp 30) (.tmp 33) rfl w.heap.size (.slice oa k oc) k _ rfl (RR.out.1.own.alloc _) _ 1 (f i) RR.out.2.2.2.2.1 rfl (Has.new _ _ _) hkl (by simp; omega) ?_; intro g7 c7 w7 hown hgrow hat hg7)
            | fail)
          have Z : Aside (FTW w w7 f n (i + 1) (k + 1) (some ⟨g7, 0, none⟩) c7) := by
            have e : TWS f n (i + 1) = TWS f n i ++ [f i] := by rw [TWS, if_pos ⟨RR.out.2.2.1.trans hc, fun h => hc2 (RR.out.2.2.2.1.symm.trans h)⟩]
            refine ⟨by rw [e, List.length_append, ← RR.out.1.len]; rfl, (RR.out.1.bel.alloc hb2 _).grown hgrow (by simp; omega) (fun k e => (RR.out.1.own.lt k e).1), ?_⟩
            rw [e, List.flatten_append, CELLS_append]
            simp only [List.flatten_cons, List.flatten_nil, List.append_nil]
            exact hown
          have HQ : Aside (i + 1 + q = n) := RR.out.2.1
          clear hown hgrow hat hg7 RR hrd
          go_wp2
          go_roundg q
          case measure => exact Nat.lt_succ_self _
          case rel => exact ⟨i + 1, k + 1, some ⟨g7, 0, none⟩, c7, rfl, by rw [ei], HQ.out, Z.out⟩
      · refine ftwice5a w1 p bx (some b) (f i) RR.out.2.2.2.2.1 l L (i : Int) hc (fun W => W = w1.drew) rfl (fun W h => JJ.out W h) (fun _ _ _ _ _ h => h) ?_
        rintro W rfl
        have Z : Aside (FTW w w1.drew f n (i + 1) k oa oc) := RR.out.1.skip (fun h => hc (RR.out.2.2.1.symm.trans h.1))
        clear JJ
        generalize w1.drew = W2 at *
        go_wp2
        go_roundg q
        case measure => exact Nat.lt_succ_self _
        case rel => exact ⟨i + 1, k, oa, oc, rfl, by rw [ei], RR.out.2.1, Z.out⟩
end Go.Proofs.Ytlbcnaenhghieaa
