/- Texts of ManyPlaces, one behind the other: ProofRow, ProofFlats, ProofMarked, ManySearch, ManyPlain, ManyPeaks. -/
import Derived.Test.YtmpaifkjlhodpaaDoorManyPlacesP6
import Derived.Test.YtmpaifkjlhodpaaDoorManyPlacesP7
import Derived.Test.YtmpaifkjlhodpaaDoorManyPlacesP9
/- The same hashes in a list of their own that goes on behind them; are these the same bytes, the same proofs? -/
namespace Go.Proofs.YtmpaifkjlhodpaaDoor
open Go.RowKit
set_option maxRecDepth 100000

theorem bytes_ext {l k : List Int} {n : Nat} (hl : l.length = n) (hk : k.length = n) (h : ∀ j, j < n → l.getD j 0 = k.getD j 0) : l = k := by
  apply List.ext_getElem (by omega)
  intro i h1 h2
  have := h i (by omega)
  simpa [List.getD, h1, h2] using this
set_option maxHeartbeats 1000000 in
theorem samebytes_ok (a b : Option Addr) (n m ca cb : Nat) (l k : List Int) (w : World) (hA : Bytes w a n l) (hB : Bytes w b m k) (hn : n ≤ 1000000) : Calls Tryd.prog 16 #[.slice a n ca, .slice b m cb] w fun e w' => e = .returned (.bool (decide (l = k))) ∧ Below w.heap.size w w' := by
  by_cases hnm : n = m
  · subst hnm
    rcases Nat.eq_zero_or_pos n with h | h
    · subst h
      have hd : decide (l = k) = true := by
        rw [List.eq_nil_of_length_eq_zero hA.1, List.eq_nil_of_length_eq_zero hB.1]
        rfl
      rw [hd]
      clear hA hB hd
      go_enter Tryd.func16, Tryd.ntmps16
      go_wp2
      refine wp_loop_rounds 1 ?_
      rw [rounds_succ]
      go_wp2
      go_ret
      exact ⟨rfl, Below.refl _ _⟩
    · obtain ⟨ba, oa, rfl, la, hca⟩ := hA.2.1 h
      obtain ⟨bb, ob, rfl, lb, hcb⟩ := hB.2.1 h
      have HC : Aside ((∀ i, i < n → w.cell? ⟨ba, oa + i, none⟩ = some (.int .u8 (l.getD i 0))) ∧ (∀ i, i < n → w.cell? ⟨bb, ob + i, none⟩ = some (.int .u8 (k.getD i 0))) ∧ ba < w.heap.size ∧ bb < w.heap.size ∧ l.length = n ∧ k.length = n ∧ n ≤ 1000000) := ⟨hca, hcb, la, lb, hA.1, hB.1, hn⟩
      clear hA hB hca hcb la lb hn
      obtain ⟨D, hD⟩ : ∃ D, D = decide (l = k) := ⟨_, rfl⟩
      rw [← hD]
      have HD : Aside (D = decide (l = k)) := hD
      clear hD
      go_enter Tryd.func16, Tryd.ntmps16
      go_wp2
      go_loopg [5] n (fun g s5 wx => ∃ i : Nat, s5 = .int .i64 i ∧ Aside (i + g = n ∧ Below w.heap.size w wx ∧ ∀ j, j < i → l.getD j 0 = k.getD j 0))
      case atStart => exact ⟨0, rfl, by omega, Below.refl _ _, fun j hj => by omega⟩
      case round =>
        obtain ⟨i, rfl, A⟩ := hrel
        cases gk with
        | zero =>
          obtain rfl : i = n := by have := A.out.1; omega
          have hlt : ¬ (i : Int) < (i : Int) := by omega
          have hd : Aside (D = true) := by
            show D = true
            rw [HD.out, decide_eq_true_iff]
            exact bytes_ext HC.out.2.2.2.2.1 HC.out.2.2.2.2.2.1 A.out.2.2
          clear HD HC
          go_wp2
          go_ret
          exact ⟨by rw [hd.out]; rfl, A.out.2.1⟩
        | succ g =>
          obtain ⟨hig, hbel, hbef⟩ := A.out
          have hlt : (i : Int) < (n : Int) := by omega
          have h1 : wr.cell? ⟨ba, oa + i, none⟩ = some (.int .u8 (l.getD i 0)) := (hbel.cell (by exact HC.out.2.2.1)).trans (HC.out.1 i (by omega))
          have h2 : wr.cell? ⟨bb, ob + i, none⟩ = some (.int .u8 (k.getD i 0)) := (hbel.cell (by exact HC.out.2.2.2.1)).trans (HC.out.2.1 i (by omega))
          have E1 : Aside (wrap64 ((i : Int) + 1) = ((i + 1 : Nat) : Int)) := by have := HC.out.2.2.2.2.2.2; show wrap64 ((i : Int) + 1) = ((i + 1 : Nat) : Int); unfold wrap64; omega
          by_cases he : l.getD i 0 = k.getD i 0
          · have B : Aside (i + 1 + g = n ∧ Below w.heap.size w wr ∧ ∀ j, j < i + 1 → l.getD j 0 = k.getD j 0) := ⟨by omega, hbel, fun j hj => by
              by_cases e : j = i
              · rw [e]; exact he
              · exact hbef j (by omega)⟩
            rw [← he] at h2
            clear he hig hbel hbef A HD HC
            generalize l.getD i 0 = v at h1 h2
            have e1 := E1.out
            go_wp2
            go_quiet (fail)
            go_wp2
            go_roundg g
            case measure => exact Nat.lt_succ_self _
            case rel => exact ⟨i + 1, by first | rfl | (rw [E1.out]), B.out.1, below_drewN B.out.2.1 _, B.out.2.2⟩
          · have hd : Aside (D = false) := by
              show D = false
              rw [HD.out, decide_eq_false_iff_not]
              intro e
              rw [e] at he
              exact he rfl
            have Z : Aside (Below w.heap.size w wr) := hbel
            clear hig hbel hbef A HD HC E1
            generalize l.getD i 0 = v1 at h1 he
            generalize k.getD i 0 = v2 at h2 he
            go_wp2
            go_quiet (fail)
            go_wp2
            go_ret
            exact ⟨by rw [hd.out]; rfl, below_drewN Z.out _⟩
  · have hne : ¬ (n : Int) = (m : Int) := by omega
    have hd : decide (l = k) = false := by
      rw [decide_eq_false_iff_not]
      intro e
      rw [e] at hA
      exact hnm (hA.1.symm.trans hB.1)
    rw [hd]
    clear hA hB hd
    go_enter Tryd.func16, Tryd.ntmps16
    go_wp2
    go_ret
    exact ⟨rfl, Below.refl _ _⟩
/-! a list of hashes, copied with a mark behind it -/
theorem Flat.none_nil {w : World} {n : Nat} {l : List Int} (h : Flat w none n l) : n = 0 ∧ l = [] := by
  have h0 : n = 0 := by
    rcases Nat.eq_zero_or_pos n with h0 | h0
    · exact h0
    · obtain ⟨_, _, e, _⟩ := h.2.1 h0
      cases e
  subst h0
  exact ⟨rfl, List.eq_nil_of_length_eq_zero h.1⟩
theorem own_shapeh {w : World} {B n : Nat} {v : Value} {xs : List Value} (h : w.ownsRow B 57 32 v n xs) : ∃ a c, v = .slice a n c ∧ n ≤ c ∧ (0 < n → ∃ g, a = some ⟨g, 0, none⟩) := by
  rcases h.2 with ⟨rfl, h0⟩ | ⟨g, cap, cur, rfl, _, _, h1, _⟩
  · subst h0
    exact ⟨none, 0, rfl, Nat.le_refl _, fun h => by omega⟩
  · exact ⟨_, _, rfl, h1, fun _ => ⟨g, rfl⟩⟩
theorem app_hashes {ops : Array Oper} {rest : List Oper} {o : Oper} {a : Act} {Q : Exit → Act → World → Prop} (w : World) (hgd : o.guard = none) (s x : Operand)
    (ho : o.op = .call { callee := .builtin .append, args := #[s, x], argTypes := #[30, 30] })
    (base : Nat) (v : Value) (n : Nat) (xs : List Value) (hs : a.eval s = v) (hown : w.ownsRow base 57 32 v n xs)
    (ad : Option Addr) (m c : Nat) (l : List Int) (hx : a.eval x = .slice ad m c) (hL : Flat w ad m l) (hc : ad = none → c = 0)
    (hb : n + m ≤ 100000) (hbase : base ≤ w.heap.size)
    (hh : ∀ a' c' w', w'.ownsRow base 57 32 (.slice a' (n + m) c') (n + m) (xs ++ CELLS l) → w.grownBy w' v.ownBlock → wpList Tryd.prog ops Q rest (a.put o.dst (.slice a' (n + m) c')) w') : wpList Tryd.prog ops Q (o :: rest) a w := by
  obtain ⟨i, hi, hz, hs1, hby⟩ := info_parts info_hashv
  cases ad with
  | none =>
    obtain rfl := hc rfl
    obtain ⟨rfl, rfl⟩ := hL.none_nil
    refine wpList_append_own_none hgd s x 30 ho base 57 i 32 Tryd.underlying30 hi v n xs hs hown hx ?_
    obtain ⟨a', c', rfl, _, _⟩ := own_shapeh hown
    have := hh a' c' w (by simpa [CELLS] using hown) (grown_refl _ _)
    simpa using this
  | some ad =>
    have hcells : ∀ j u, (CELLS l)[j]? = some u → w.cell? (ad.add j) = some u := by
      intro j u hu
      have hj : j < l.length := by
        have := (List.getElem?_eq_some_iff.1 hu).1
        simpa [CELLS] using this
      have hl := hL.1
      obtain ⟨g, o', e, _, hc'⟩ := hL.2.1 (by omega)
      cases e
      rw [addr_add, hc' j (by omega), ← hu, CELLS_get l j hj]
    refine wpList_append_own w hgd s x 30 ho base 57 i _ 32 32 Tryd.underlying30 hi hz hs1 hby rfl (by decide) v n xs hs hown ad m c (CELLS l) hx (by rw [CELLS, List.length_map, hL.1]; omega) hcells (CELLS_one l) (by simp only [maxLen]; omega) (by omega) hbase ?_
    intro v' w' h1 h2 _
    obtain ⟨a', c', rfl, _, _⟩ := own_shapeh h1
    exact hh a' c' w' h1 h2
/-- the mark behind a list of hashes. -/
def MRK : List Int := 171 :: List.replicate 31 0
theorem MRK_arr : (CELLS MRK).toArray = #[.int .u8 171, .int .u8 0, .int .u8 0, .int .u8 0, .int .u8 0, .int .u8 0, .int .u8 0, .int .u8 0, .int .u8 0, .int .u8 0, .int .u8 0, .int .u8 0, .int .u8 0, .int .u8 0, .int .u8 0, .int .u8 0, .int .u8 0, .int .u8 0, .int .u8 0, .int .u8 0, .int .u8 0, .int .u8 0, .int .u8 0, .int .u8 0, .int .u8 0, .int .u8 0, .int .u8 0, .int .u8 0, .int .u8 0, .int .u8 0, .int .u8 0, .int .u8 0] := rfl
theorem own_front32 {w : World} {base g n cap : Nat} {l m : List Int} (h : w.ownsRow base 57 32 (.slice (some ⟨g, 0, none⟩) (n + 1) cap) (n + 1) (CELLS l ++ CELLS m)) (hl : l.length = 32 * n) (hm : m.length = 32) : w.ownsRow base 57 32 (.slice (some ⟨g, 0, none⟩) n cap) n (CELLS l) ∧ n + 1 ≤ cap ∧ w.rangeAt g (n * 32) (CELLS m) ∧ g < w.heap.size := by
  have hr : w.rangeAt g (n * 32) (CELLS m) := by
    intro j v hv
    have hj : j < 32 := by
      have := (List.getElem?_eq_some_iff.1 hv).1
      simpa [CELLS, hm] using this
    have := h.cellAt (n * 32 + j) (by omega)
    rw [this, List.getElem?_append_right (by simp [CELLS]; omega), show n * 32 + j - (CELLS l).length = j by simp [CELLS]; omega]
    exact hv
  rcases h.2 with ⟨e, _⟩ | ⟨g', cap', cur, e, hb, hg, h1, h2, h3, h4⟩
  · cases e
  · cases e
    refine ⟨⟨by rw [CELLS, List.length_map, hl, Nat.mul_comm], .inr ⟨g, cap, cur, rfl, hb, hg, by omega, h2, h3, ?_⟩⟩, h1, hr, (Array.getElem?_eq_some_iff.1 hg).1⟩
    have h5 := congrArg (List.take (n * 32)) h4
    rw [List.take_take, show min (n * 32) ((n + 1) * 32) = n * 32 by omega] at h5
    rw [h5, List.take_left' (by rw [CELLS, List.length_map, hl, Nat.mul_comm])]
/-- what row answers. -/
def ROWED (w : World) (n : Nat) (l : List Int) (e : Ending) (w' : World) : Prop :=
  ∃ g cap, e = .returned (.slice (some ⟨g, 0, none⟩) n cap) ∧ w'.ownsRow w.heap.size 57 32 (.slice (some ⟨g, 0, none⟩) n cap) n (CELLS l) ∧ n + 1 ≤ cap ∧ w'.rangeAt g (n * 32) (CELLS MRK) ∧ g < w'.heap.size ∧ Below w.heap.size w w'
theorem own_empty32 (w : World) : (w.alloc (.cells #[] 57)).ownsRow w.heap.size 57 32 (.slice (some ⟨w.heap.size, 0, none⟩) 0 0) 0 [] :=
  World.ownsRow_lit w #[] 0 (Nat.le_refl _) (by simp [maxLen]) rfl
end Go.Proofs.YtmpaifkjlhodpaaDoor

/- Lists of hashes and of bytes that lie somewhere: what a row of one's own, a block, a cut of them give. -/
namespace Go.Proofs.YtmpaifkjlhodpaaDoor
open Go.RowKit
set_option maxRecDepth 100000

theorem range_below {w w' : World} {g o : Nat} {cs : List Value} (h : w.rangeAt g o cs) (hb : Below w.heap.size w w') (hg : g < w.heap.size) : w'.rangeAt g o cs := fun j v hv => (hb.cell (p := ⟨g, o + j, none⟩) hg).trans (h j v hv)
theorem range_other {w : World} {g o : Nat} {cs : List Value} (h : w.rangeAt g o cs) {a : Addr} (ha : g ≠ a.block) (u : Value) : (w.setCell a u).rangeAt g o cs := fun j v hv => (World.cell?_setCell_other w _ _ u (fun e => ha (congrArg Addr.block e).symm)).trans (h j v hv)
theorem Flat.other {w : World} {b o n : Nat} {l : List Int} (h : Flat w (some ⟨b, o, none⟩) n l) {a : Addr} (ha : b ≠ a.block) (u : Value) : Flat (w.setCell a u) (some ⟨b, o, none⟩) n l :=
  ⟨h.1, fun hn => by
    obtain ⟨b', o', e, hl, hc⟩ := h.2.1 hn
    cases e
    exact ⟨b, o, rfl, Nat.lt_of_lt_of_le hl (KeepsWalks.setCell w a u).size, fun j hj => (World.cell?_setCell_other w _ _ u (fun e => ha (congrArg Addr.block e).symm)).trans (hc j hj)⟩, h.2.2⟩
theorem own_flat {w : World} {B n : Nat} {a : Option Addr} {c : Nat} {l : List Int} (h : w.ownsRow B 57 32 (.slice a n c) n (CELLS l)) (hr : ∀ x ∈ l, 0 ≤ x ∧ x ≤ 255) : Flat w a n l := by
  have hl : l.length = 32 * n := by have := h.1; simpa [CELLS, Nat.mul_comm] using this
  refine ⟨hl, fun hn => ?_, hr⟩
  rcases h.2 with ⟨e, h0⟩ | ⟨g, cap, cur, e, _, hg, _⟩
  · omega
  · cases e
    refine ⟨g, 0, rfl, (Array.getElem?_eq_some_iff.1 hg).1, fun j hj => ?_⟩
    have := h.cellAt j (by omega)
    rw [Nat.zero_add, this, CELLS_get l j (by omega)]
theorem nil_flat (w : World) : Flat w none 0 [] := ⟨rfl, fun h => absurd h (by decide), by simp⟩
theorem has_flat {w : World} {g n : Nat} {l : List Int} (h : Has w g (CELLS l).toArray 57) (hl : l.length = 32 * n) (hr : ∀ x ∈ l, 0 ≤ x ∧ x ≤ 255) : Flat w (some ⟨g, 0, none⟩) n l :=
  ⟨hl, fun _ => ⟨g, 0, rfl, h.lt, fun j hj => by rw [Nat.zero_add, h.cell, List.getElem?_toArray, CELLS_get l j (by omega)]⟩, hr⟩
theorem own_sl {w : World} {B n : Nat} {v : Value} {l : List Int} (h : w.ownsRow B 5 1 v n (CELLS l)) (hr : ∀ x ∈ l, 0 ≤ x ∧ x ≤ 255) : ∃ a c, v = .slice a n c ∧ Bytes w a n l ∧ n ≤ c := by
  obtain ⟨a, c, rfl⟩ : ∃ a c, v = .slice a n c := by
    rcases h.2 with ⟨rfl, h0⟩ | ⟨g, cap, cur, rfl, _⟩
    · subst h0
      exact ⟨none, 0, rfl⟩
    · exact ⟨_, _, rfl⟩
  exact ⟨a, c, rfl, own_bytes_any h hr⟩
theorem ENCB_range {k E : Int} {P n X Y : Nat} {l c : List Int} {E' : Int} (hX : X < 2 ^ 64) (hY : Y < 2 ^ 64) (hk : 0 ≤ k ∧ k ≤ 255) (hr : ∀ x ∈ l, 0 ≤ x ∧ x ≤ 255) (h : ENCB k E P n X Y l = (E', c)) : ∀ x ∈ c, 0 ≤ x ∧ x ≤ 255 := by
  unfold ENCB at h
  split at h
  · cases h
    simp
  · split at h
    · cases h
      simp
    · cases h
      intro x hx
      simp only [List.mem_cons, List.mem_append] at hx
      rcases hx with rfl | (hx | hx) | hx
      · exact hk
      · exact SHORT_range hX x hx
      · exact SHORT_range hY x hx
      · exact hr x hx
theorem ENCB_long {k E : Int} {P n X Y : Nat} {l c : List Int} {E' : Int} (hl : l.length = 32 * n) (h : ENCB k E P n X Y l = (E', c)) : c.length ≤ 21 + 32 * n := by
  have h1 := SHORT_length X
  have h2 := SHORT_length Y
  have h3 := NTOP_le X
  have h4 := NTOP_le Y
  unfold ENCB at h
  split at h
  · cases h
    simp
  · split at h
    · cases h
      simp
    · cases h
      simp
      omega
theorem Bytes.take {w : World} {a : Option Addr} {n : Nat} {l : List Int} (h : Bytes w a n l) {m : Nat} (hm : m ≤ n) : Bytes w a m (l.take m) := by
  refine ⟨by rw [List.length_take, h.1]; omega, fun h0 => ?_, fun x hx => h.2.2 x (List.mem_of_mem_take hx)⟩
  obtain ⟨b, o, e, hb, hc⟩ := h.2.1 (by omega)
  refine ⟨b, o, e, hb, fun i hi => ?_⟩
  rw [hc i (by omega), List.getD_eq_getElem?_getD, List.getD_eq_getElem?_getD, List.getElem?_take, if_pos hi]
end Go.Proofs.YtmpaifkjlhodpaaDoor

/- A list of hashes of one's own that is written over with a mark. -/
namespace Go.Proofs.YtmpaifkjlhodpaaDoor
open Go.RowKit
set_option maxRecDepth 100000

/-- values laid over a list, one behind the other, from o on. -/
def OVERW (xs : List Value) : Nat → List Value → List Value
  | _, [] => xs
  | o, v :: vs => OVERW (xs.set o v) (o + 1) vs
theorem OVERW_eq : ∀ (vs xs : List Value) (o : Nat), o + vs.length ≤ xs.length → OVERW xs o vs = xs.take o ++ vs ++ xs.drop (o + vs.length)
  | [], xs, o, _ => by simp [OVERW]
  | v :: vs, xs, o, h => by
    simp only [List.length_cons] at h
    rw [OVERW, OVERW_eq vs (xs.set o v) (o + 1) (by rw [List.length_set]; omega)]
    rw [List.take_set, List.drop_set, if_pos (by omega)]
    rw [List.take_add_one, List.getElem?_eq_getElem (by omega)]
    simp only [Option.toList_some, List.length_cons]
    rw [List.set_append_right _ _ (by simp; omega)]
    simp only [List.length_take, show min o xs.length = o by omega, Nat.sub_self, List.set_cons_zero]
    simp [Nat.add_comm, Nat.add_left_comm]
theorem own_over {B : Nat} {t : TypeId} {s g n c : Nat} : ∀ (vs xs : List Value) (o : Nat) (w : World), w.ownsRow B t s (.slice (some ⟨g, 0, none⟩) n c) n xs → (w.setCells g o vs).ownsRow B t s (.slice (some ⟨g, 0, none⟩) n c) n (OVERW xs o vs) ∧ w.grownBy (w.setCells g o vs) (some g)
  | [], xs, o, w, h => ⟨h, grown_refl _ _⟩
  | v :: vs, xs, o, w, h => by
    obtain ⟨h1, h2⟩ := h.stored o v
    obtain ⟨h3, h4⟩ := own_over vs _ (o + 1) _ h1
    exact ⟨h3, grown_trans h2 h4 (.inl rfl)⟩
/-- the mark m. -/
def MK (m : Int) : List Int := m :: List.replicate 31 0
theorem MK_length (m : Int) : (MK m).length = 32 := rfl
theorem MK_arr (m : Int) : (CELLS (MK m)).toArray = #[.int .u8 m, .int .u8 0, .int .u8 0, .int .u8 0, .int .u8 0, .int .u8 0, .int .u8 0, .int .u8 0, .int .u8 0, .int .u8 0, .int .u8 0, .int .u8 0, .int .u8 0, .int .u8 0, .int .u8 0, .int .u8 0, .int .u8 0, .int .u8 0, .int .u8 0, .int .u8 0, .int .u8 0, .int .u8 0, .int .u8 0, .int .u8 0, .int .u8 0, .int .u8 0, .int .u8 0, .int .u8 0, .int .u8 0, .int .u8 0, .int .u8 0, .int .u8 0] := rfl
/-- so many marks. -/
def MKS (m : Int) : Nat → List Int
  | 0 => []
  | k + 1 => MKS m k ++ MK m
theorem MKS_length (m : Int) : ∀ k, (MKS m k).length = 32 * k
  | 0 => rfl
  | k + 1 => by rw [MKS, List.length_append, MKS_length m k, MK_length]; omega
theorem MKS_add (m : Int) (a : Nat) : ∀ b, MKS m (a + b) = MKS m a ++ MKS m b
  | 0 => by simp [MKS]
  | b + 1 => by rw [← Nat.add_assoc, MKS, MKS, MKS_add m a b, List.append_assoc]
theorem MKS_at (m : Int) {k i : Nat} (hi : i < k) : HSH (MKS m k) i = MK m := by
  unfold HSH
  rw [show k = i + (1 + (k - i - 1)) by omega, MKS_add, MKS_add, List.drop_left' (by rw [MKS_length]), List.take_left' (by rw [MKS_length])]
  rfl
/-- the first j are marks. -/
def MKP (xs : List Value) (m : Int) (j : Nat) : List Value := CELLS (MKS m j) ++ xs.drop (32 * j)
theorem MKP_zero (xs : List Value) (m : Int) : MKP xs m 0 = xs := by simp [MKP, MKS, CELLS]
theorem MKP_all {xs : List Value} {n : Nat} (h : xs.length = 32 * n) (m : Int) : MKP xs m n = CELLS (MKS m n) := by
  unfold MKP
  rw [List.drop_of_length_le (by omega), List.append_nil]
theorem MKP_length {xs : List Value} {n j : Nat} (h : xs.length = 32 * n) (hj : j ≤ n) (m : Int) : (MKP xs m j).length = 32 * n := by
  unfold MKP
  rw [List.length_append, List.length_drop, CELLS, List.length_map, MKS_length]
  omega
theorem MKP_next {xs : List Value} {n j : Nat} (h : xs.length = 32 * n) (hj : j < n) (m : Int) : OVERW (MKP xs m j) (j * 32) (CELLS (MK m)) = MKP xs m (j + 1) := by
  have hl : (CELLS (MK m)).length = 32 := rfl
  have hk : (CELLS (MKS m j)).length = j * 32 := by rw [CELLS, List.length_map, MKS_length]; omega
  rw [OVERW_eq _ _ _ (by rw [MKP_length h (by omega), hl]; omega), hl]
  unfold MKP
  rw [List.take_left' hk, List.drop_append, List.drop_of_length_le (by omega), List.nil_append, hk, List.drop_drop, MKS, CELLS_append]
  rw [show 32 * j + (j * 32 + 32 - j * 32) = 32 * (j + 1) by omega]
theorem step_pure {o : Oper} {a : Act} {w w' : World} {K : Act → World → Prop} {Q : Exit → Act → World → Prop} {v : Value} (hrun : (execOp a.eval o).run Tryd.prog w = .ok (.value v) w') (h : K (a.put o.dst v) w') : Oper.wp Tryd.prog o a w K Q := by
  unfold Oper.wp
  rw [hrun]
  exact h
end Go.Proofs.YtmpaifkjlhodpaaDoor

/- A list of numbers that lies there; slices.BinarySearch over a rising one. -/
namespace Go.Proofs.YtmpaifkjlhodpaaDoor
open Go.RowKit
set_option maxRecDepth 100000

/-- numbers that lie there, at any place of a block. -/
def NUML (w : World) (a : Option Addr) (L : List Nat) : Prop := 0 < L.length → ∃ b o, a = some ⟨b, o, none⟩ ∧ b < w.heap.size ∧ ∀ i x, L[i]? = some x → w.cell? ⟨b, o + i, none⟩ = some (.int .u64 ((x : Nat) : Int))
theorem NUML.below {w w' : World} {a : Option Addr} {L : List Nat} {B : Nat} (h : NUML w a L) (hb : Below B w w') (hB : ∀ x, a = some x → x.block < B) : NUML w' a L := fun h0 => by
  obtain ⟨b, o, e, hl, hc⟩ := h h0
  have h1 : b < B := hB _ e
  exact ⟨b, o, e, by have := hb.size; omega, fun i x hx => (hb.cell (p := ⟨b, o + i, none⟩) h1).trans (hc i x hx)⟩
/-- each one above the one ahead. -/
def RISES (L : List Nat) : Prop := ∀ (i j x y : Nat), i < j → L[i]? = some x → L[j]? = some y → x < y
theorem mid_lt {i j : Nat} (h : i < j) : ∃ m, i ≤ m ∧ m < j ∧ m = (i + j) / 2 := ⟨(i + j) / 2, by omega, by omega, rfl⟩
theorem search_wraps (i j S m : Nat) (hj : j < 2 ^ 40) (hi : i < j) (hS : i + j = S) (hm : m = (i + j) / 2) : wrap64 ((i : Int) + (j : Int)) = (S : Int) ∧ IntKind.u64.wrap ((i : Int) + (j : Int)) = (S : Int) ∧ (S : Int) / 2 = (m : Int) ∧ wrap64 (m : Int) = (m : Int) ∧ wrap64 ((m : Int) + 1) = ((m + 1 : Nat) : Int) ∧ IntKind.u64.wrap (S : Int) = (S : Int) := by
  rw [wrapU, wrapU]
  unfold wrap64
  omega
theorem isnan_ok (x : Int) (w : World) : Calls Tryd.prog 70 #[.int .u64 x] w fun e w' => e = .returned (.bool false) ∧ w = w' := by
  go_enter Tryd.func70, Tryd.ntmps70
  go_wp2
  go_ret
  exact ⟨rfl, rfl⟩
theorem cmpnan_ok (x : Int) (w : World) : Calls Tryd.prog 76 #[.int .u64 x] w fun e w' => e = .returned (.bool false) ∧ w = w' := by
  go_enter Tryd.func76, Tryd.ntmps76
  go_wp2
  go_ret
  exact ⟨rfl, rfl⟩
theorem less_ok (x y : Nat) (w : World) : Calls Tryd.prog 69 #[.int .u64 (x : Int), .int .u64 (y : Int)] w fun e w' => e = .returned (.bool (decide (x < y))) ∧ w = w' := by
  have c := cmpnan_ok (x : Int) w
  go_enter Tryd.func69, Tryd.ntmps69
  go_wp2_with fail
  refine c.mono ?_
  rintro e w' ⟨rfl, rfl⟩
  clear c
  go_wp2_with fail
  go_ret
  exact ⟨rfl, rfl⟩
theorem less_yes (x y : Nat) (h : x < y) (w : World) : Calls Tryd.prog 69 #[.int .u64 (x : Int), .int .u64 (y : Int)] w fun e w' => e = .returned (.bool true) ∧ w = w' := by
  have := less_ok x y w
  rwa [decide_eq_true h] at this
theorem less_no (x y : Nat) (h : ¬ x < y) (w : World) : Calls Tryd.prog 69 #[.int .u64 (x : Int), .int .u64 (y : Int)] w fun e w' => e = .returned (.bool false) ∧ w = w' := by
  have := less_ok x y w
  rwa [decide_eq_false h] at this
/-- k of them are below t. -/
structure RANKS (L : List Nat) (t k : Nat) : Prop where
  le : k ≤ L.length
  lo : ∀ i x, i < k → L[i]? = some x → x < t
  hi : ∀ i x, k ≤ i → L[i]? = some x → t ≤ x
def SOUGHT (L : List Nat) (t : Nat) (w : World) (e : Ending) (w' : World) : Prop := ∃ (k : Nat) (b : Bool), e = .returned (.tuple #[.int .i64 (k : Int), .bool b]) ∧ RANKS L t k ∧ w = w'
set_option maxHeartbeats 1000000 in
theorem search_ok (a : Option Addr) (n cap : Nat) (L : List Nat) (t : Nat) (hl : L.length = n) (hn : n < 2 ^ 40) (hR : RISES L) (w : World) (hL : NUML w a L) : Calls Tryd.prog 61 #[.slice a n cap, .int .u64 (t : Int)] w fun e w' => SOUGHT L t w e w' := by
  have H : Aside (L.length = n ∧ n < 2 ^ 40 ∧ RISES L ∧ NUML w a L) := ⟨hl, hn, hR, hL⟩
  clear hl hn hR hL
  go_enter Tryd.func61, Tryd.ntmps61
  go_wp2
  go_loopg [7, 8] n (fun gg s7 s8 wx => ∃ i j : Nat, s7 = .int .i64 (i : Int) ∧ s8 = .int .i64 (j : Int) ∧ Aside (i + gg = j ∧ j ≤ n ∧ (∀ (k : Nat) (x : Nat), k < i → L[k]? = some x → x < t) ∧ (∀ (k : Nat) (x : Nat), j ≤ k → L[k]? = some x → t ≤ x)) ∧ wx = w)
  case atStart => exact ⟨0, n, rfl, rfl, ⟨by omega, Nat.le_refl _, fun k x h => by omega, fun k x h e => by have := (List.getElem?_eq_some_iff.1 e).1; have := H.out.1; omega⟩, rfl⟩
  case round =>
    obtain ⟨i, j, rfl, rfl, I, rfl⟩ := hrel
    cases gk with
    | zero =>
      obtain ⟨i1, i2, i3, i4⟩ := I.out
      obtain rfl : i = j := by omega
      have hlt : ¬ (i : Int) < (i : Int) := by omega
      rcases Nat.lt_or_ge i n with hin | hin
      · have hi2 : (i : Int) < (n : Int) := by omega
        have hi0 : (0 : Int) ≤ (i : Int) := by omega
        obtain ⟨h1, h2, h3, h4⟩ := H.out
        obtain ⟨x, ex⟩ : ∃ x, L[i]? = some x := ⟨_, List.getElem?_eq_getElem (by omega)⟩
        obtain ⟨g, o, rfl, hg, hc⟩ := h4 (by omega)
        have x0 := hc i x ex
        have cc := isnan_ok (x : Int)
        have R : Aside (RANKS L t i) := ⟨by omega, i3, i4⟩
        clear i1 i2 i3 i4 h1 h2 h3 h4 hc ex I H
        by_cases hx : x = t
        · subst hx
          go_wp2_with fail
          go_ret2
          exact ⟨i, _, rfl, R.out, rfl⟩
        · have hx' : ¬ (x : Int) = (t : Int) := by omega
          go_wp2_with fail
          refine (cc _).mono ?_
          rintro e w2 ⟨rfl, rfl⟩
          clear cc
          go_wp2_with fail
          go_ret2
          exact ⟨i, _, rfl, R.out, rfl⟩
      · have hi2 : ¬ (i : Int) < (n : Int) := by omega
        have R : Aside (RANKS L t i) := ⟨by have := H.out.1; omega, i3, i4⟩
        clear i1 i2 i3 i4 I H
        go_wp2
        go_ret2
        exact ⟨i, false, rfl, R.out, rfl⟩
    | succ gg =>
      obtain ⟨i1, i2, i3, i4⟩ := I.out
      have hij : (i : Int) < (j : Int) := by omega
      obtain ⟨h1, h2, h3, h4⟩ := H.out
      obtain ⟨m, m1, m2, m3⟩ := mid_lt (i := i) (j := j) (by omega)
      obtain ⟨S, hS⟩ : ∃ S, i + j = S := ⟨_, rfl⟩
      have HW : Aside _ := search_wraps i j S m (by omega) (by omega) hS m3
      clear hS
      have hm2 : (m : Int) < (n : Int) := by omega
      have hm0 : (0 : Int) ≤ (m : Int) := by omega
      obtain ⟨x, ex⟩ : ∃ x, L[m]? = some x := ⟨_, List.getElem?_eq_getElem (by omega)⟩
      obtain ⟨g, o, rfl, hg, hc⟩ := h4 (by omega)
      have x0 := hc m x ex
      have LO : Aside (x < t → ∀ (k : Nat) (y : Nat), k < m + 1 → L[k]? = some y → y < t) := fun h k y hk e => by
        rcases Nat.lt_or_ge k m with hkm | hkm
        · have := h3 k m y x hkm e ex
          omega
        · obtain rfl : k = m := by omega
          rw [ex] at e
          cases e
          exact h
      have HI : Aside (¬ x < t → ∀ (k : Nat) (y : Nat), m ≤ k → L[k]? = some y → t ≤ y) := fun h k y hk e => by
        rcases Nat.lt_or_ge m k with hkm | hkm
        · have := h3 m k x y hkm ex e
          omega
        · obtain rfl : k = m := by omega
          rw [ex] at e
          cases e
          omega
      have R : Aside (i ≤ m ∧ m < j ∧ j ≤ n ∧ i + (gg + 1) = j ∧ (∀ (k : Nat) (y : Nat), k < i → L[k]? = some y → y < t) ∧ (∀ (k : Nat) (y : Nat), j ≤ k → L[k]? = some y → t ≤ y)) := ⟨m1, m2, i2, i1, i3, i4⟩
      clear i1 i2 i3 i4 h1 h2 h3 h4 hc ex I m1 m2 m3
      obtain ⟨q1, q2, q3, q4, q5, q6⟩ := HW.out
      by_cases hlt : x < t
      · have cc := less_yes x t hlt
        have LL : Aside (∀ (k : Nat) (y : Nat), k < m + 1 → L[k]? = some y → y < t) := LO.out hlt
        clear hlt LO HI
        go_wp2_with fail
        refine (cc _).mono ?_
        rintro e w2 ⟨rfl, rfl⟩
        clear cc x0
        go_wp2
        go_roundg (j - (m + 1))
        case measure => have := R.out; clear q1 q2 q3 q4 q5 q6; omega
        case rel => exact ⟨m + 1, j, by first | rfl | (rw [q5]), rfl, ⟨by have := R.out; clear q1 q2 q3 q4 q5 q6; omega, R.out.2.2.1, LL.out, R.out.2.2.2.2.2⟩, rfl⟩
      · have cc := less_no x t hlt
        have LL : Aside (∀ (k : Nat) (y : Nat), m ≤ k → L[k]? = some y → t ≤ y) := HI.out hlt
        clear hlt LO HI
        go_wp2_with fail
        refine (cc _).mono ?_
        rintro e w2 ⟨rfl, rfl⟩
        clear cc x0
        go_wp2
        go_roundg (m - i)
        case measure => have := R.out; clear q1 q2 q3 q4 q5 q6; omega
        case rel => exact ⟨i, m, rfl, by first | rfl | (rw [q4]), ⟨by have := R.out; clear q1 q2 q3 q4 q5 q6; omega, by have := R.out; clear q1 q2 q3 q4 q5 q6; omega, R.out.2.2.2.2.1, LL.out⟩, rfl⟩
end Go.Proofs.YtmpaifkjlhodpaaDoor

/- Which nodes leaves need: plain. -/
namespace Go.Proofs.YtmpaifkjlhodpaaDoor
set_option maxRecDepth 100000

/-- the places that the leaves L under the k-th node of height h need, rising. -/
def NEED : Nat → Nat → List Nat → List Nat
  | h, k, [] => [PLC h k]
  | 0, _, _ :: _ => []
  | h + 1, k, x :: l => NEED h (2 * k) ((x :: l).filter fun y => decide (y < (2 * k + 1) * 2 ^ h)) ++ NEED h (2 * k + 1) ((x :: l).filter fun y => !decide (y < (2 * k + 1) * 2 ^ h))
theorem NEED_nil (h k : Nat) : NEED h k [] = [PLC h k] := by cases h <;> rfl
theorem NEED_leaf (k x : Nat) (l : List Nat) : NEED 0 k (x :: l) = [] := rfl
theorem NEED_node (h k x : Nat) (l : List Nat) : NEED (h + 1) k (x :: l) = NEED h (2 * k) ((x :: l).filter fun y => decide (y < (2 * k + 1) * 2 ^ h)) ++ NEED h (2 * k + 1) ((x :: l).filter fun y => !decide (y < (2 * k + 1) * 2 ^ h)) := rfl
/-- the first r of a rising list are those below t. -/
theorem RANKS.take : ∀ {L : List Nat} {t r : Nat}, RANKS L t r → L.take r = L.filter fun y => decide (y < t)
  | [], t, r, _ => by simp
  | x :: l, t, 0, h => by
    rw [List.take_zero]
    symm
    rw [List.filter_eq_nil_iff]
    intro y hy
    obtain ⟨i, hi⟩ := List.getElem?_of_mem hy
    have := h.hi i y (Nat.zero_le _) hi
    simp
    omega
  | x :: l, t, r + 1, h => by
    have hx : x < t := h.lo 0 x (by omega) rfl
    have h' : RANKS l t r := ⟨by have := h.le; simp at this; omega, fun i y hi hy => h.lo (i + 1) y (by omega) (by simpa using hy), fun i y hi hy => h.hi (i + 1) y (by omega) (by simpa using hy)⟩
    rw [List.take_succ_cons, List.filter_cons_of_pos (by simpa using hx), h'.take]
theorem RANKS.drop : ∀ {L : List Nat} {t r : Nat}, RANKS L t r → L.drop r = L.filter fun y => !decide (y < t)
  | [], t, r, _ => by simp
  | x :: l, t, 0, h => by
    rw [List.drop_zero]
    symm
    rw [List.filter_eq_self]
    intro y hy
    obtain ⟨i, hi⟩ := List.getElem?_of_mem hy
    have := h.hi i y (Nat.zero_le _) hi
    simp
    omega
  | x :: l, t, r + 1, h => by
    have hx : x < t := h.lo 0 x (by omega) rfl
    have h' : RANKS l t r := ⟨by have := h.le; simp at this; omega, fun i y hi hy => h.lo (i + 1) y (by omega) (by simpa using hy), fun i y hi hy => h.hi (i + 1) y (by omega) (by simpa using hy)⟩
    rw [List.drop_succ_cons, List.filter_cons_of_neg (by simpa using hx), h'.drop]
theorem RISES.take {L : List Nat} (h : RISES L) (r : Nat) : RISES (L.take r) := fun i j x y hij hx hy => by
  rw [List.getElem?_take] at hx hy
  split at hx
  · split at hy
    · exact h i j x y hij hx hy
    · cases hy
  · cases hx
theorem RISES.drop {L : List Nat} (h : RISES L) (r : Nat) : RISES (L.drop r) := fun i j x y hij hx hy => by
  rw [List.getElem?_drop] at hx hy
  exact h (r + i) (r + j) x y (by omega) hx hy
theorem NEED_take {h k r : Nat} {L : List Nat} (hL : L ≠ []) (hr : RANKS L ((2 * k + 1) * 2 ^ h) r) : NEED (h + 1) k L = NEED h (2 * k) (L.take r) ++ NEED h (2 * k + 1) (L.drop r) := by
  cases L with
  | nil => exact absurd rfl hL
  | cons x l => rw [NEED_node, hr.take, hr.drop]
/-- the peaks' leaves, one peak behind the other. -/
def NEEDS : List (Nat × Nat) → List Nat → List Nat
  | [], _ => []
  | (h, k) :: ps, L => NEED h k (L.filter fun y => decide (y < (k + 1) * 2 ^ h)) ++ NEEDS ps (L.filter fun y => !decide (y < (k + 1) * 2 ^ h))
theorem NEEDS_take {h k r : Nat} {L : List Nat} (ps : List (Nat × Nat)) (hr : RANKS L ((k + 1) * 2 ^ h) r) : NEEDS ((h, k) :: ps) L = NEED h k (L.take r) ++ NEEDS ps (L.drop r) := by
  rw [NEEDS, hr.take, hr.drop]
theorem filter_both (p : Nat → Bool) : ∀ l : List Nat, (l.filter p).length + (l.filter fun y => !p y).length = l.length
  | [] => rfl
  | x :: l => by
    have := filter_both p l
    cases h : p x <;> simp [List.filter, h] <;> omega
theorem NEED_bound : ∀ (h k : Nat) (L : List Nat), L ≠ [] → (NEED h k L).length ≤ L.length * h
  | _, _, [], hL => absurd rfl hL
  | 0, _, _ :: _, _ => by simp [NEED]
  | h + 1, k, x :: l, _ => by
    rw [NEED_node, List.length_append]
    generalize hA : ((x :: l).filter fun y => decide (y < (2 * k + 1) * 2 ^ h)) = A
    generalize hB : ((x :: l).filter fun y => !decide (y < (2 * k + 1) * 2 ^ h)) = B
    have hAB : A.length + B.length = (x :: l).length := by
      rw [← hA, ← hB]
      exact filter_both _ _
    have h1 : (NEED h (2 * k) A).length ≤ A.length * h + (if A.length = 0 then 1 else 0) := by
      cases A with
      | nil => rw [NEED_nil]; simp
      | cons y m => exact Nat.le_trans (NEED_bound h (2 * k) (y :: m) (by simp)) (Nat.le_add_right _ _)
    have h2 : (NEED h (2 * k + 1) B).length ≤ B.length * h + (if B.length = 0 then 1 else 0) := by
      cases B with
      | nil => rw [NEED_nil]; simp
      | cons y m => exact Nat.le_trans (NEED_bound h (2 * k + 1) (y :: m) (by simp)) (Nat.le_add_right _ _)
    have h3 : 0 < (x :: l).length := by simp
    have h4 : A.length * h + B.length * h = (x :: l).length * h := by rw [← Nat.add_mul, hAB]
    rw [Nat.mul_succ]
    generalize (NEED h (2 * k) A).length = u at *
    generalize (NEED h (2 * k + 1) B).length = v at *
    generalize A.length * h = p at *
    generalize B.length * h = q at *
    generalize (x :: l).length * h = s at *
    generalize (x :: l).length = m at *
    split at h1 <;> split at h2 <;> omega
theorem NEED_most (h k : Nat) (L : List Nat) : (NEED h k L).length ≤ L.length * h + 1 := by
  cases L with
  | nil => rw [NEED_nil]; simp
  | cons x l => exact Nat.le_trans (NEED_bound h k (x :: l) (by simp)) (Nat.le_add_right _ _)
end Go.Proofs.YtmpaifkjlhodpaaDoor

/- The peaks as spots. -/
namespace Go.Proofs.YtmpaifkjlhodpaaDoor
set_option maxRecDepth 100000

/-- the peaks of n leaves, from the left: height and index. -/
def TPS (n : Nat) : List (Nat × Nat) := (HS 0 n).map fun h => (h, 2 * (n / 2 ^ (h + 1)))
theorem drop_at {α : Type} : ∀ {l : List α} {j : Nat} {x : α}, l[j]? = some x → l.drop j = x :: l.drop (j + 1)
  | [], j, x, h => by simp at h
  | y :: l, 0, x, h => by
    simp only [List.getElem?_cons_zero, Option.some.injEq] at h
    rw [h]
    rfl
  | y :: l, j + 1, x, h => by
    rw [List.getElem?_cons_succ] at h
    rw [List.drop_succ_cons, List.drop_succ_cons]
    exact drop_at h
theorem TPS_length {n : Nat} (hn : n < 2 ^ 64) : (TPS n).length = PC n := by
  rw [TPS, List.length_map, HS_length hn 0 (by decide), Nat.pow_zero, Nat.div_one]
theorem TPS_peak {n j h k : Nat} (e : (TPS n)[j]? = some (h, k)) : (PEAKS n)[j]? = some (PLC h k) := by
  unfold TPS at e
  unfold PEAKS
  rw [List.getElem?_map] at e ⊢
  cases hj : (HS 0 n)[j]? with
  | none => rw [hj] at e; cases e
  | some x =>
    rw [hj] at e
    simp only [Option.map_some, Option.some.injEq, Prod.mk.injEq] at e
    obtain ⟨rfl, rfl⟩ := e
    rfl
theorem node_of_span {h k : Nat} (hh : h ≤ 62) (hs : (k + 1) * 2 ^ h ≤ 2 ^ 62) : Node h k := by
  refine ⟨hh, ?_⟩
  rcases Nat.lt_or_ge k (2 ^ (62 - h)) with h1 | h1
  · exact h1
  · have h2 : (2 ^ (62 - h) + 1) * 2 ^ h ≤ (k + 1) * 2 ^ h := Nat.mul_le_mul_right _ (by omega)
    rw [Nat.add_mul, ← Nat.pow_add, show 62 - h + h = 62 by omega] at h2
    have := Nat.two_pow_pos h
    omega
theorem TPS_span {n h k : Nat} (hn : n ≤ 2 ^ 62) (hm : (h, k) ∈ TPS n) : h ≤ 62 ∧ (k + 1) * 2 ^ h ≤ n ∧ Node h k := by
  unfold TPS at hm
  rw [List.mem_map] at hm
  obtain ⟨x, hx, e⟩ := hm
  simp only [Prod.mk.injEq] at e
  obtain ⟨rfl, rfl⟩ := e
  obtain ⟨_, h2, h3⟩ := HS_set_of 0 x (by decide) hx
  have h4 : 2 * (n / 2 ^ (x + 1)) + 1 = n / 2 ^ x := by
    rw [Nat.pow_succ, ← Nat.div_div_eq_div_mul]
    omega
  have h5 : (2 * (n / 2 ^ (x + 1)) + 1) * 2 ^ x ≤ n := by rw [h4]; exact Nat.div_mul_le_self n (2 ^ x)
  have h6 : x ≤ 62 := by
    rcases Nat.lt_or_ge 62 x with h7 | h7
    · have h8 : 2 ^ 63 ≤ 2 ^ x := Nat.pow_le_pow_right (by decide) h7
      have h9 : 1 * 2 ^ x ≤ (2 * (n / 2 ^ (x + 1)) + 1) * 2 ^ x := Nat.mul_le_mul_right _ (by omega)
      omega
    · exact h7
  exact ⟨h6, h5, node_of_span h6 (by omega)⟩
theorem NEEDS_most : ∀ (ps : List (Nat × Nat)) (L : List Nat), (∀ p ∈ ps, p.1 ≤ 62) → (NEEDS ps L).length ≤ L.length * 62 + ps.length
  | [], L, _ => by simp [NEEDS]
  | (h, k) :: ps, L, hp => by
    rw [NEEDS, List.length_append, List.length_cons]
    have h1 := NEED_most h k (L.filter fun y => decide (y < (k + 1) * 2 ^ h))
    have h2 := NEEDS_most ps (L.filter fun y => !decide (y < (k + 1) * 2 ^ h)) (fun p hm => hp p (List.mem_cons_of_mem _ hm))
    have h3 := filter_both (fun y => decide (y < (k + 1) * 2 ^ h)) L
    have h4 : h ≤ 62 := hp (h, k) (List.mem_cons_self ..)
    have h5 : (L.filter fun y => decide (y < (k + 1) * 2 ^ h)).length * h ≤ (L.filter fun y => decide (y < (k + 1) * 2 ^ h)).length * 62 := Nat.mul_le_mul_left _ h4
    generalize (L.filter fun y => decide (y < (k + 1) * 2 ^ h)).length * h = u at *
    generalize (L.filter fun y => decide (y < (k + 1) * 2 ^ h)).length = p at *
    generalize (L.filter fun y => !decide (y < (k + 1) * 2 ^ h)).length = q at *
    omega
end Go.Proofs.YtmpaifkjlhodpaaDoor
