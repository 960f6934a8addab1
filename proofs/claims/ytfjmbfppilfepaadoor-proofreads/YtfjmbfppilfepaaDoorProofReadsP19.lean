/- Texts of ProofReads, one behind the other: ProofTexts, ProofRow, ProofFlats, ProofMarked. -/
import Derived.Test.YtfjmbfppilfepaaDoorProofReadsP15
import Derived.Test.YtfjmbfppilfepaaDoorProofReadsP18
/- The same bytes in a list of their own that goes on behind them; are these the same bytes? -/
namespace Go.Proofs.YtfjmbfppilfepaaDoor
open Go.RowKit
set_option maxRecDepth 100000

theorem own_front {w : World} {base g n cap : Nat} {l : List Int} {x : Int} (h : w.ownsRow base 5 1 (.slice (some ⟨g, 0, none⟩) (n + 1) cap) (n + 1) (CELLS (l ++ [x]))) (hl : l.length = n) : w.ownsRow base 5 1 (.slice (some ⟨g, 0, none⟩) n cap) n (CELLS l) ∧ n + 1 ≤ cap ∧ w.cell? ⟨g, n, none⟩ = some (.int .u8 x) := by
  have hc := h.cellAt n (by omega)
  have hx : (CELLS (l ++ [x]))[n]? = some (.int .u8 x) := by
    rw [← hl]
    simp [CELLS]
  rcases h.2 with ⟨e, _⟩ | ⟨g', cap', cur, e, hb, hg, h1, h2, h3, h4⟩
  · cases e
  · cases e
    refine ⟨⟨by rw [CELLS, List.length_map, hl, Nat.mul_one], .inr ⟨g, cap, cur, rfl, hb, hg, by omega, h2, h3, ?_⟩⟩, h1, hc.trans hx⟩
    have h5 := congrArg (List.take (n * 1)) h4
    rw [List.take_take, show min (n * 1) ((n + 1) * 1) = n * 1 by omega] at h5
    rw [h5, CELLS_append, List.take_left' (by rw [CELLS, List.length_map, hl, Nat.mul_one])]
/-- what text answers. -/
def TEXTED (w : World) (n : Nat) (l : List Int) (e : Ending) (w' : World) : Prop :=
  ∃ g cap, e = .returned (.slice (some ⟨g, 0, none⟩) n cap) ∧ w'.ownsRow w.heap.size 5 1 (.slice (some ⟨g, 0, none⟩) n cap) n (CELLS l) ∧ n + 1 ≤ cap ∧ w'.cell? ⟨g, n, none⟩ = some (.int .u8 171) ∧ g < w'.heap.size ∧ Below w.heap.size w w'
set_option maxHeartbeats 1000000 in
theorem text_ok (a : Option Addr) (n c : Nat) (hn : n ≤ 1000000) (hc : a = none → c = 0) (l : List Int) (w : World) (hB : Bytes w a n l) : Calls Tryd.prog 11 #[.slice a n c] w (TEXTED w n l) := by
  have HA : Aside (n ≤ 1000000 ∧ (a = none → c = 0) ∧ Bytes w a n l) := ⟨hn, hc, hB⟩
  clear hn hc hB
  go_enter Tryd.func11, Tryd.ntmps11
  go_wp2_with (at_builtin; first
    | (refine app_any _ rfl (.tmp 3) (.tmp 4) rfl w.heap.size (.slice (some ⟨w.heap.size, 0, none⟩) 0 0) 0 [] rfl (own_empty w _ (Nat.le_refl _)) a n c l rfl (HA.out.2.2.below ((Below.refl _ _).alloc (Nat.le_refl _) _)) HA.out.2.1 n l (Nat.zero_add n) rfl (by have := HA.out.1; omega) (by simp) ?_; intro a1 c1 w1 hown1 hgrow1
       have R1 : Aside (w1.ownsRow w.heap.size 5 1 (.slice a1 n c1) n (CELLS l) ∧ Below w.heap.size w w1) := ⟨hown1, ((Below.refl _ w).alloc (Nat.le_refl _) _).grown hgrow1 (by simp) (fun k e => by cases e; exact Nat.le_refl _)⟩
       clear hown1 hgrow1)
    | (refine app_u8 _ rfl (.tmp 5) (.tmp 6) rfl w.heap.size (.slice a1 n c1) n l rfl (R1.out.1.alloc _) w1.heap.size 0 1 1 [171] rfl (one_bytes w1 171 (by decide) (by decide)) (by decide) (by have := HA.out.1; omega) (by have := R1.out.2.size; simp; omega) ?_; intro g2 c2 w2 hown2 hgrow2 hg2
       obtain ⟨f1, f2, f3⟩ := own_front hown2 HA.out.2.2.1
       have hcap : (n : Int) ≤ (c2 : Int) := by omega
       have R2 : Aside (w2.ownsRow w.heap.size 5 1 (.slice (some ⟨g2, 0, none⟩) n c2) n (CELLS l) ∧ n + 1 ≤ c2 ∧ w2.cell? ⟨g2, n, none⟩ = some (.int .u8 171) ∧ g2 < w2.heap.size ∧ Below w.heap.size w w2) := ⟨f1, f2, f3, hg2, (R1.out.2.alloc R1.out.2.size _).grown hgrow2 (by have := R1.out.2.size; simp; omega) (fun k e => (R1.out.1.lt k e).1)⟩
       clear hown2 hgrow2 hg2 f1 f2 f3))
  go_ret
  exact ⟨_, _, rfl, R2.out⟩
end Go.Proofs.YtfjmbfppilfepaaDoor

/- The same hashes in a list of their own that goes on behind them; are these the same bytes, the same proofs? -/
namespace Go.Proofs.YtfjmbfppilfepaaDoor
open Go.RowKit
set_option maxRecDepth 100000

theorem bytes_ext {l k : List Int} {n : Nat} (hl : l.length = n) (hk : k.length = n) (h : ∀ j, j < n → l.getD j 0 = k.getD j 0) : l = k := by
  apply List.ext_getElem (by omega)
  intro i h1 h2
  have := h i (by omega)
  simpa [List.getD, h1, h2] using this
set_option maxHeartbeats 1000000 in
theorem samebytes_ok (a b : Option Addr) (n m ca cb : Nat) (l k : List Int) (w : World) (hA : Bytes w a n l) (hB : Bytes w b m k) (hn : n ≤ 1000000) : Calls Tryd.prog 42 #[.slice a n ca, .slice b m cb] w fun e w' => e = .returned (.bool (decide (l = k))) ∧ Below w.heap.size w w' := by
  by_cases hnm : n = m
  · subst hnm
    rcases Nat.eq_zero_or_pos n with h | h
    · subst h
      have hd : decide (l = k) = true := by
        rw [List.eq_nil_of_length_eq_zero hA.1, List.eq_nil_of_length_eq_zero hB.1]
        rfl
      rw [hd]
      clear hA hB hd
      go_enter Tryd.func42, Tryd.ntmps42
      go_wp2
      refine wp_loop_rounds 1 ?_
      rw [rounds_succ]
      go_wp2
      go_ret
      exact ⟨rfl, Below.refl _ _⟩
    · obtain ⟨ba, oa, rfl, la, hca⟩ := hA.2.1 h
      obtain ⟨bb, ob, rfl, lb, hcb⟩ := hB.2.1 h
      have HC : Aside ((∀ i, i < n → w.cell? ⟨ba, oa + i, none⟩ = some (.int .u8 (l.getD i 0))) ∧ (∀ i, i < n → w.cell? ⟨bb, ob + i, none⟩ = some (.int .u8 (k.getD i 0))) ∧ ba < w.heap.size ∧ bb < w.heap.size ∧ l.length = n ∧ k.length = n ∧ n ≤ 1000000) := ⟨hca, hcb, la, lb, hA.1, hB.1, hn⟩
      clear hA hB hca hcb la lb hn
      obtain ⟨D, hD⟩ : ∃ D, D = decide (l = k) := ⟨_, rfl⟩
      rw [← hD]
      have HD : Aside (D = decide (l = k)) := hD
      clear hD
      go_enter Tryd.func42, Tryd.ntmps42
      go_wp2
      go_loopg [5] n (fun g s5 wx => ∃ i : Nat, s5 = .int .i64 i ∧ Aside (i + g = n ∧ Below w.heap.size w wx ∧ ∀ j, j < i → l.getD j 0 = k.getD j 0))
      case atStart => exact ⟨0, rfl, by omega, Below.refl _ _, fun j hj => by omega⟩
      case round =>
        obtain ⟨i, rfl, A⟩ := hrel
        cases gk with
        | zero =>
          obtain rfl : i = n := by have := A.out.1; omega
          have hlt : ¬ (i : Int) < (i : Int) := by omega
          have hd : Aside (D = true) := by
            show D = true
            rw [HD.out, decide_eq_true_iff]
            exact bytes_ext HC.out.2.2.2.2.1 HC.out.2.2.2.2.2.1 A.out.2.2
          clear HD HC
          go_wp2
          go_ret
          exact ⟨by rw [hd.out]; rfl, A.out.2.1⟩
        | succ g =>
          obtain ⟨hig, hbel, hbef⟩ := A.out
          have hlt : (i : Int) < (n : Int) := by omega
          have h1 : wr.cell? ⟨ba, oa + i, none⟩ = some (.int .u8 (l.getD i 0)) := (hbel.cell (by exact HC.out.2.2.1)).trans (HC.out.1 i (by omega))
          have h2 : wr.cell? ⟨bb, ob + i, none⟩ = some (.int .u8 (k.getD i 0)) := (hbel.cell (by exact HC.out.2.2.2.1)).trans (HC.out.2.1 i (by omega))
          have E1 : Aside (wrap64 ((i : Int) + 1) = ((i + 1 : Nat) : Int)) := by have := HC.out.2.2.2.2.2.2; show wrap64 ((i : Int) + 1) = ((i + 1 : Nat) : Int); unfold wrap64; omega
          by_cases he : l.getD i 0 = k.getD i 0
          · have B : Aside (i + 1 + g = n ∧ Below w.heap.size w wr ∧ ∀ j, j < i + 1 → l.getD j 0 = k.getD j 0) := ⟨by omega, hbel, fun j hj => by
              by_cases e : j = i
              · rw [e]; exact he
              · exact hbef j (by omega)⟩
            rw [← he] at h2
            clear he hig hbel hbef A HD HC
            generalize l.getD i 0 = v at h1 h2
            have e1 := E1.out
            go_wp2
            go_quiet (fail)
            go_wp2
            go_roundg g
            case measure => exact Nat.lt_succ_self _
            case rel => exact ⟨i + 1, by first | rfl | (rw [E1.out]), B.out.1, below_drewN B.out.2.1 _, B.out.2.2⟩
          · have hd : Aside (D = false) := by
              show D = false
              rw [HD.out, decide_eq_false_iff_not]
              intro e
              rw [e] at he
              exact he rfl
            have Z : Aside (Below w.heap.size w wr) := hbel
            clear hig hbel hbef A HD HC E1
            generalize l.getD i 0 = v1 at h1 he
            generalize k.getD i 0 = v2 at h2 he
            go_wp2
            go_quiet (fail)
            go_wp2
            go_ret
            exact ⟨by rw [hd.out]; rfl, below_drewN Z.out _⟩
  · have hne : ¬ (n : Int) = (m : Int) := by omega
    have hd : decide (l = k) = false := by
      rw [decide_eq_false_iff_not]
      intro e
      rw [e] at hA
      exact hnm (hA.1.symm.trans hB.1)
    rw [hd]
    clear hA hB hd
    go_enter Tryd.func42, Tryd.ntmps42
    go_wp2
    go_ret
    exact ⟨rfl, Below.refl _ _⟩
theorem bytes_ok (a b : Option Addr) (n m ca cb : Nat) (l k : List Int) (w : World) (hA : Bytes w a n l) (hB : Bytes w b m k) (hn : n ≤ 1000000) : Calls Tryd.prog 15 #[.slice a n ca, .slice b m cb] w fun e w' => e = .returned (.bool (decide (l = k))) ∧ Below w.heap.size w w' := by
  have c := samebytes_ok a b n m ca cb l k w hA hB hn
  clear hA hB
  go_enter Tryd.func15, Tryd.ntmps15
  go_wp2_with fail
  refine c.mono ?_
  rintro e w5 ⟨rfl, hb5⟩
  go_wp2
  go_ret
  exact ⟨rfl, hb5⟩
/-- two proofs that are alike, field by field. -/
theorem sameproofs_ok (X Y : Int) (a b : Option Addr) (n m ca cb : Nat) (l : List Int) (w : World) (hA : Flat w a n l) (hB : Flat w b m l) (hn : n ≤ 1000000) :
    Calls Tryd.prog 10 #[.agg #[.int .u64 X, .int .u64 Y, .slice a n ca], .agg #[.int .u64 X, .int .u64 Y, .slice b m cb]] w fun e w' => e = .returned (.bool true) ∧ Below w.heap.size w w' := by
  have C : Aside (∀ W, Below w.heap.size w W → Calls Tryd.prog 24 #[.slice a n ca, .slice b m cb] W fun e w' => e = .returned (.bool true) ∧ Below w.heap.size w w') := fun W h => by
    refine (samehashes_ok a b n m ca cb l l W (hA.below h) (hB.below h) hn).mono ?_
    rintro e w' ⟨rfl, hb⟩
    exact ⟨by simp, h.trans (hb.mono h.size)⟩
  have Z : Aside (Below w.heap.size w ((w.alloc (.cells #[.int .u64 X, .int .u64 Y, .slice a n ca] 25)).alloc (.cells #[.int .u64 X, .int .u64 Y, .slice b m cb] 25))) := ((Below.refl _ _).alloc (Nat.le_refl _) _).alloc (by simp) _
  clear hA hB hn
  go_enter Tryd.func10, Tryd.ntmps10
  go_wp2_with fail
  refine (C.out _ Z.out).mono ?_
  rintro e w5 ⟨rfl, hb5⟩
  clear C Z
  go_wp2
  go_ret
  exact ⟨rfl, hb5⟩
theorem sameprefixes_ok (X Y : Int) (a b : Option Addr) (n m ca cb : Nat) (l : List Int) (w : World) (hA : Flat w a n l) (hB : Flat w b m l) (hn : n ≤ 1000000) :
    Calls Tryd.prog 14 #[.agg #[.int .u64 X, .int .u64 Y, .slice a n ca], .agg #[.int .u64 X, .int .u64 Y, .slice b m cb]] w fun e w' => e = .returned (.bool true) ∧ Below w.heap.size w w' := by
  have C : Aside (∀ W, Below w.heap.size w W → Calls Tryd.prog 24 #[.slice a n ca, .slice b m cb] W fun e w' => e = .returned (.bool true) ∧ Below w.heap.size w w') := fun W h => by
    refine (samehashes_ok a b n m ca cb l l W (hA.below h) (hB.below h) hn).mono ?_
    rintro e w' ⟨rfl, hb⟩
    exact ⟨by simp, h.trans (hb.mono h.size)⟩
  have Z : Aside (Below w.heap.size w ((w.alloc (.cells #[.int .u64 X, .int .u64 Y, .slice a n ca] 27)).alloc (.cells #[.int .u64 X, .int .u64 Y, .slice b m cb] 27))) := ((Below.refl _ _).alloc (Nat.le_refl _) _).alloc (by simp) _
  clear hA hB hn
  go_enter Tryd.func14, Tryd.ntmps14
  go_wp2_with fail
  refine (C.out _ Z.out).mono ?_
  rintro e w5 ⟨rfl, hb5⟩
  clear C Z
  go_wp2
  go_ret
  exact ⟨rfl, hb5⟩
/-! a list of hashes, copied with a mark behind it -/
theorem Flat.none_nil {w : World} {n : Nat} {l : List Int} (h : Flat w none n l) : n = 0 ∧ l = [] := by
  have h0 : n = 0 := by
    rcases Nat.eq_zero_or_pos n with h0 | h0
    · exact h0
    · obtain ⟨_, _, e, _⟩ := h.2.1 h0
      cases e
  subst h0
  exact ⟨rfl, List.eq_nil_of_length_eq_zero h.1⟩
theorem own_shapeh {w : World} {B n : Nat} {v : Value} {xs : List Value} (h : w.ownsRow B 53 32 v n xs) : ∃ a c, v = .slice a n c ∧ n ≤ c ∧ (0 < n → ∃ g, a = some ⟨g, 0, none⟩) := by
  rcases h.2 with ⟨rfl, h0⟩ | ⟨g, cap, cur, rfl, _, _, h1, _⟩
  · subst h0
    exact ⟨none, 0, rfl, Nat.le_refl _, fun h => by omega⟩
  · exact ⟨_, _, rfl, h1, fun _ => ⟨g, rfl⟩⟩
theorem app_hashes {ops : Array Oper} {rest : List Oper} {o : Oper} {a : Act} {Q : Exit → Act → World → Prop} (w : World) (hgd : o.guard = none) (s x : Operand)
    (ho : o.op = .call { callee := .builtin .append, args := #[s, x], argTypes := #[23, 23] })
    (base : Nat) (v : Value) (n : Nat) (xs : List Value) (hs : a.eval s = v) (hown : w.ownsRow base 53 32 v n xs)
    (ad : Option Addr) (m c : Nat) (l : List Int) (hx : a.eval x = .slice ad m c) (hL : Flat w ad m l) (hc : ad = none → c = 0)
    (hb : n + m ≤ 100000) (hbase : base ≤ w.heap.size)
    (hh : ∀ a' c' w', w'.ownsRow base 53 32 (.slice a' (n + m) c') (n + m) (xs ++ CELLS l) → w.grownBy w' v.ownBlock → wpList Tryd.prog ops Q rest (a.put o.dst (.slice a' (n + m) c')) w') : wpList Tryd.prog ops Q (o :: rest) a w := by
  obtain ⟨i, hi, hz, hs1, hby⟩ := info_parts info_hashv
  cases ad with
  | none =>
    obtain rfl := hc rfl
    obtain ⟨rfl, rfl⟩ := hL.none_nil
    refine wpList_append_own_none hgd s x 23 ho base 53 i 32 Tryd.underlying23 hi v n xs hs hown hx ?_
    obtain ⟨a', c', rfl, _, _⟩ := own_shapeh hown
    have := hh a' c' w (by simpa [CELLS] using hown) (grown_refl _ _)
    simpa using this
  | some ad =>
    have hcells : ∀ j u, (CELLS l)[j]? = some u → w.cell? (ad.add j) = some u := by
      intro j u hu
      have hj : j < l.length := by
        have := (List.getElem?_eq_some_iff.1 hu).1
        simpa [CELLS] using this
      have hl := hL.1
      obtain ⟨g, o', e, _, hc'⟩ := hL.2.1 (by omega)
      cases e
      rw [addr_add, hc' j (by omega), ← hu, CELLS_get l j hj]
    refine wpList_append_own w hgd s x 23 ho base 53 i _ 32 32 Tryd.underlying23 hi hz hs1 hby rfl (by decide) v n xs hs hown ad m c (CELLS l) hx (by rw [CELLS, List.length_map, hL.1]; omega) hcells (CELLS_one l) (by simp only [maxLen]; omega) (by omega) hbase ?_
    intro v' w' h1 h2 _
    obtain ⟨a', c', rfl, _, _⟩ := own_shapeh h1
    exact hh a' c' w' h1 h2
/-- the mark behind a list of hashes. -/
def MRK : List Int := 171 :: List.replicate 31 0
theorem MRK_arr : (CELLS MRK).toArray = #[.int .u8 171, .int .u8 0, .int .u8 0, .int .u8 0, .int .u8 0, .int .u8 0, .int .u8 0, .int .u8 0, .int .u8 0, .int .u8 0, .int .u8 0, .int .u8 0, .int .u8 0, .int .u8 0, .int .u8 0, .int .u8 0, .int .u8 0, .int .u8 0, .int .u8 0, .int .u8 0, .int .u8 0, .int .u8 0, .int .u8 0, .int .u8 0, .int .u8 0, .int .u8 0, .int .u8 0, .int .u8 0, .int .u8 0, .int .u8 0, .int .u8 0, .int .u8 0] := rfl
theorem own_front32 {w : World} {base g n cap : Nat} {l m : List Int} (h : w.ownsRow base 53 32 (.slice (some ⟨g, 0, none⟩) (n + 1) cap) (n + 1) (CELLS l ++ CELLS m)) (hl : l.length = 32 * n) (hm : m.length = 32) : w.ownsRow base 53 32 (.slice (some ⟨g, 0, none⟩) n cap) n (CELLS l) ∧ n + 1 ≤ cap ∧ w.rangeAt g (n * 32) (CELLS m) ∧ g < w.heap.size := by
  have hr : w.rangeAt g (n * 32) (CELLS m) := by
    intro j v hv
    have hj : j < 32 := by
      have := (List.getElem?_eq_some_iff.1 hv).1
      simpa [CELLS, hm] using this
    have := h.cellAt (n * 32 + j) (by omega)
    rw [this, List.getElem?_append_right (by simp [CELLS]; omega), show n * 32 + j - (CELLS l).length = j by simp [CELLS]; omega]
    exact hv
  rcases h.2 with ⟨e, _⟩ | ⟨g', cap', cur, e, hb, hg, h1, h2, h3, h4⟩
  · cases e
  · cases e
    refine ⟨⟨by rw [CELLS, List.length_map, hl, Nat.mul_comm], .inr ⟨g, cap, cur, rfl, hb, hg, by omega, h2, h3, ?_⟩⟩, h1, hr, (Array.getElem?_eq_some_iff.1 hg).1⟩
    have h5 := congrArg (List.take (n * 32)) h4
    rw [List.take_take, show min (n * 32) ((n + 1) * 32) = n * 32 by omega] at h5
    rw [h5, List.take_left' (by rw [CELLS, List.length_map, hl, Nat.mul_comm])]
/-- what row answers. -/
def ROWED (w : World) (n : Nat) (l : List Int) (e : Ending) (w' : World) : Prop :=
  ∃ g cap, e = .returned (.slice (some ⟨g, 0, none⟩) n cap) ∧ w'.ownsRow w.heap.size 53 32 (.slice (some ⟨g, 0, none⟩) n cap) n (CELLS l) ∧ n + 1 ≤ cap ∧ w'.rangeAt g (n * 32) (CELLS MRK) ∧ g < w'.heap.size ∧ Below w.heap.size w w'
theorem own_empty32 (w : World) : (w.alloc (.cells #[] 53)).ownsRow w.heap.size 53 32 (.slice (some ⟨w.heap.size, 0, none⟩) 0 0) 0 [] :=
  World.ownsRow_lit w #[] 0 (Nat.le_refl _) (by simp [maxLen]) rfl
set_option maxHeartbeats 1000000 in
theorem row_ok (a : Option Addr) (n c : Nat) (hn : n ≤ 1000) (hc : a = none → c = 0) (l : List Int) (w : World) (hF : Flat w a n l) : Calls Tryd.prog 7 #[.slice a n c] w (ROWED w n l) := by
  have HA : Aside (n ≤ 1000 ∧ (a = none → c = 0) ∧ Flat w a n l) := ⟨hn, hc, hF⟩
  clear hn hc hF
  go_enter Tryd.func7, Tryd.ntmps7
  go_wp2_with (first
    | (at_builtin; refine app_hashes _ rfl (.tmp 3) (.tmp 4) rfl w.heap.size (.slice (some ⟨w.heap.size, 0, none⟩) 0 0) 0 [] rfl (own_empty32 w) a n c l rfl (HA.out.2.2.below ((Below.refl _ _).alloc (Nat.le_refl _) _)) HA.out.2.1 (by have := HA.out.1; omega) (by simp) ?_; rw [Nat.zero_add, List.nil_append]; intro a1 c1 w1 hown1 hgrow1
       have R1 : Aside (w1.ownsRow w.heap.size 53 32 (.slice a1 n c1) n (CELLS l) ∧ Below w.heap.size w w1) := ⟨hown1, ((Below.refl _ w).alloc (Nat.le_refl _) _).grown hgrow1 (by simp) (fun k e => by cases e; exact Nat.le_refl _)⟩
       clear hown1 hgrow1)
    | (rw [← MRK_arr]; refine build_one _ rfl 23 53 (.tmp 6) rfl (CELLS MRK).toArray rfl 32 _ _ Tryd.underlying23 info_hashv (by rfl) rfl (by decide) (by decide) ?_)
    | (at_builtin; refine app_hash _ rfl (.tmp 5) (.tmp 7) rfl w.heap.size (.slice a1 n c1) n (CELLS l) rfl (R1.out.1.alloc _) w1.heap.size 1 MRK rfl rfl (Has.new _ _ _) (by have := HA.out.1; omega) (by have := R1.out.2.size; simp; omega) ?_; intro g2 c2 w2 hown2 hgrow2 hat2 hg2
       obtain ⟨f1, f2, f3, f4⟩ := own_front32 hown2 HA.out.2.2.1 rfl
       have hcap : (n : Int) ≤ (c2 : Int) := by omega
       have R2 : Aside (w2.ownsRow w.heap.size 53 32 (.slice (some ⟨g2, 0, none⟩) n c2) n (CELLS l) ∧ n + 1 ≤ c2 ∧ w2.rangeAt g2 (n * 32) (CELLS MRK) ∧ g2 < w2.heap.size ∧ Below w.heap.size w w2) := ⟨f1, f2, f3, f4, (R1.out.2.alloc R1.out.2.size _).grown hgrow2 (by have := R1.out.2.size; simp; omega) (fun k e => (R1.out.1.lt k e).1)⟩
       clear hown2 hgrow2 hat2 hg2 f1 f2 f3 f4))
  go_ret
  exact ⟨_, _, rfl, R2.out⟩
end Go.Proofs.YtfjmbfppilfepaaDoor

/- Lists of hashes and of bytes that lie somewhere: what a row of one's own, a block, a cut of them give. -/
namespace Go.Proofs.YtfjmbfppilfepaaDoor
open Go.RowKit
set_option maxRecDepth 100000

theorem range_below {w w' : World} {g o : Nat} {cs : List Value} (h : w.rangeAt g o cs) (hb : Below w.heap.size w w') (hg : g < w.heap.size) : w'.rangeAt g o cs := fun j v hv => (hb.cell (p := ⟨g, o + j, none⟩) hg).trans (h j v hv)
theorem range_other {w : World} {g o : Nat} {cs : List Value} (h : w.rangeAt g o cs) {a : Addr} (ha : g ≠ a.block) (u : Value) : (w.setCell a u).rangeAt g o cs := fun j v hv => (World.cell?_setCell_other w _ _ u (fun e => ha (congrArg Addr.block e).symm)).trans (h j v hv)
theorem Flat.other {w : World} {b o n : Nat} {l : List Int} (h : Flat w (some ⟨b, o, none⟩) n l) {a : Addr} (ha : b ≠ a.block) (u : Value) : Flat (w.setCell a u) (some ⟨b, o, none⟩) n l :=
  ⟨h.1, fun hn => by
    obtain ⟨b', o', e, hl, hc⟩ := h.2.1 hn
    cases e
    exact ⟨b, o, rfl, Nat.lt_of_lt_of_le hl (KeepsWalks.setCell w a u).size, fun j hj => (World.cell?_setCell_other w _ _ u (fun e => ha (congrArg Addr.block e).symm)).trans (hc j hj)⟩, h.2.2⟩
theorem own_flat {w : World} {B n : Nat} {a : Option Addr} {c : Nat} {l : List Int} (h : w.ownsRow B 53 32 (.slice a n c) n (CELLS l)) (hr : ∀ x ∈ l, 0 ≤ x ∧ x ≤ 255) : Flat w a n l := by
  have hl : l.length = 32 * n := by have := h.1; simpa [CELLS, Nat.mul_comm] using this
  refine ⟨hl, fun hn => ?_, hr⟩
  rcases h.2 with ⟨e, h0⟩ | ⟨g, cap, cur, e, _, hg, _⟩
  · omega
  · cases e
    refine ⟨g, 0, rfl, (Array.getElem?_eq_some_iff.1 hg).1, fun j hj => ?_⟩
    have := h.cellAt j (by omega)
    rw [Nat.zero_add, this, CELLS_get l j (by omega)]
theorem nil_flat (w : World) : Flat w none 0 [] := ⟨rfl, fun h => absurd h (by decide), by simp⟩
theorem has_flat {w : World} {g n : Nat} {l : List Int} (h : Has w g (CELLS l).toArray 53) (hl : l.length = 32 * n) (hr : ∀ x ∈ l, 0 ≤ x ∧ x ≤ 255) : Flat w (some ⟨g, 0, none⟩) n l :=
  ⟨hl, fun _ => ⟨g, 0, rfl, h.lt, fun j hj => by rw [Nat.zero_add, h.cell, List.getElem?_toArray, CELLS_get l j (by omega)]⟩, hr⟩
theorem own_sl {w : World} {B n : Nat} {v : Value} {l : List Int} (h : w.ownsRow B 5 1 v n (CELLS l)) (hr : ∀ x ∈ l, 0 ≤ x ∧ x ≤ 255) : ∃ a c, v = .slice a n c ∧ Bytes w a n l ∧ n ≤ c := by
  obtain ⟨a, c, rfl⟩ : ∃ a c, v = .slice a n c := by
    rcases h.2 with ⟨rfl, h0⟩ | ⟨g, cap, cur, rfl, _⟩
    · subst h0
      exact ⟨none, 0, rfl⟩
    · exact ⟨_, _, rfl⟩
  exact ⟨a, c, rfl, own_bytes_any h hr⟩
theorem ENCB_range {k E : Int} {P n X Y : Nat} {l c : List Int} {E' : Int} (hX : X < 2 ^ 64) (hY : Y < 2 ^ 64) (hk : 0 ≤ k ∧ k ≤ 255) (hr : ∀ x ∈ l, 0 ≤ x ∧ x ≤ 255) (h : ENCB k E P n X Y l = (E', c)) : ∀ x ∈ c, 0 ≤ x ∧ x ≤ 255 := by
  unfold ENCB at h
  split at h
  · cases h
    simp
  · split at h
    · cases h
      simp
    · cases h
      intro x hx
      simp only [List.mem_cons, List.mem_append] at hx
      rcases hx with rfl | (hx | hx) | hx
      · exact hk
      · exact SHORT_range hX x hx
      · exact SHORT_range hY x hx
      · exact hr x hx
theorem ENCB_long {k E : Int} {P n X Y : Nat} {l c : List Int} {E' : Int} (hl : l.length = 32 * n) (h : ENCB k E P n X Y l = (E', c)) : c.length ≤ 21 + 32 * n := by
  have h1 := SHORT_length X
  have h2 := SHORT_length Y
  have h3 := NTOP_le X
  have h4 := NTOP_le Y
  unfold ENCB at h
  split at h
  · cases h
    simp
  · split at h
    · cases h
      simp
    · cases h
      simp
      omega
theorem Bytes.take {w : World} {a : Option Addr} {n : Nat} {l : List Int} (h : Bytes w a n l) {m : Nat} (hm : m ≤ n) : Bytes w a m (l.take m) := by
  refine ⟨by rw [List.length_take, h.1]; omega, fun h0 => ?_, fun x hx => h.2.2 x (List.mem_of_mem_take hx)⟩
  obtain ⟨b, o, e, hb, hc⟩ := h.2.1 (by omega)
  refine ⟨b, o, e, hb, fun i hi => ?_⟩
  rw [hc i (by omega), List.getD_eq_getElem?_getD, List.getD_eq_getElem?_getD, List.getElem?_take, if_pos hi]
end Go.Proofs.YtfjmbfppilfepaaDoor

/- A list of hashes of one's own that is written over with a mark. -/
namespace Go.Proofs.YtfjmbfppilfepaaDoor
open Go.RowKit
set_option maxRecDepth 100000

/-- values laid over a list, one behind the other, from o on. -/
def OVERW (xs : List Value) : Nat → List Value → List Value
  | _, [] => xs
  | o, v :: vs => OVERW (xs.set o v) (o + 1) vs
theorem OVERW_eq : ∀ (vs xs : List Value) (o : Nat), o + vs.length ≤ xs.length → OVERW xs o vs = xs.take o ++ vs ++ xs.drop (o + vs.length)
  | [], xs, o, _ => by simp [OVERW]
  | v :: vs, xs, o, h => by
    simp only [List.length_cons] at h
    rw [OVERW, OVERW_eq vs (xs.set o v) (o + 1) (by rw [List.length_set]; omega)]
    rw [List.take_set, List.drop_set, if_pos (by omega)]
    rw [List.take_add_one, List.getElem?_eq_getElem (by omega)]
    simp only [Option.toList_some, List.length_cons]
    rw [List.set_append_right _ _ (by simp; omega)]
    simp only [List.length_take, show min o xs.length = o by omega, Nat.sub_self, List.set_cons_zero]
    simp [Nat.add_comm, Nat.add_left_comm]
theorem own_over {B : Nat} {t : TypeId} {s g n c : Nat} : ∀ (vs xs : List Value) (o : Nat) (w : World), w.ownsRow B t s (.slice (some ⟨g, 0, none⟩) n c) n xs → (w.setCells g o vs).ownsRow B t s (.slice (some ⟨g, 0, none⟩) n c) n (OVERW xs o vs) ∧ w.grownBy (w.setCells g o vs) (some g)
  | [], xs, o, w, h => ⟨h, grown_refl _ _⟩
  | v :: vs, xs, o, w, h => by
    obtain ⟨h1, h2⟩ := h.stored o v
    obtain ⟨h3, h4⟩ := own_over vs _ (o + 1) _ h1
    exact ⟨h3, grown_trans h2 h4 (.inl rfl)⟩
/-- the mark m. -/
def MK (m : Int) : List Int := m :: List.replicate 31 0
theorem MK_length (m : Int) : (MK m).length = 32 := rfl
theorem MK_arr (m : Int) : (CELLS (MK m)).toArray = #[.int .u8 m, .int .u8 0, .int .u8 0, .int .u8 0, .int .u8 0, .int .u8 0, .int .u8 0, .int .u8 0, .int .u8 0, .int .u8 0, .int .u8 0, .int .u8 0, .int .u8 0, .int .u8 0, .int .u8 0, .int .u8 0, .int .u8 0, .int .u8 0, .int .u8 0, .int .u8 0, .int .u8 0, .int .u8 0, .int .u8 0, .int .u8 0, .int .u8 0, .int .u8 0, .int .u8 0, .int .u8 0, .int .u8 0, .int .u8 0, .int .u8 0, .int .u8 0] := rfl
/-- so many marks. -/
def MKS (m : Int) : Nat → List Int
  | 0 => []
  | k + 1 => MKS m k ++ MK m
theorem MKS_length (m : Int) : ∀ k, (MKS m k).length = 32 * k
  | 0 => rfl
  | k + 1 => by rw [MKS, List.length_append, MKS_length m k, MK_length]; omega
theorem MKS_add (m : Int) (a : Nat) : ∀ b, MKS m (a + b) = MKS m a ++ MKS m b
  | 0 => by simp [MKS]
  | b + 1 => by rw [← Nat.add_assoc, MKS, MKS, MKS_add m a b, List.append_assoc]
theorem MKS_at (m : Int) {k i : Nat} (hi : i < k) : HSH (MKS m k) i = MK m := by
  unfold HSH
  rw [show k = i + (1 + (k - i - 1)) by omega, MKS_add, MKS_add, List.drop_left' (by rw [MKS_length]), List.take_left' (by rw [MKS_length])]
  rfl
/-- the first j are marks. -/
def MKP (xs : List Value) (m : Int) (j : Nat) : List Value := CELLS (MKS m j) ++ xs.drop (32 * j)
theorem MKP_zero (xs : List Value) (m : Int) : MKP xs m 0 = xs := by simp [MKP, MKS, CELLS]
theorem MKP_all {xs : List Value} {n : Nat} (h : xs.length = 32 * n) (m : Int) : MKP xs m n = CELLS (MKS m n) := by
  unfold MKP
  rw [List.drop_of_length_le (by omega), List.append_nil]
theorem MKP_length {xs : List Value} {n j : Nat} (h : xs.length = 32 * n) (hj : j ≤ n) (m : Int) : (MKP xs m j).length = 32 * n := by
  unfold MKP
  rw [List.length_append, List.length_drop, CELLS, List.length_map, MKS_length]
  omega
theorem MKP_next {xs : List Value} {n j : Nat} (h : xs.length = 32 * n) (hj : j < n) (m : Int) : OVERW (MKP xs m j) (j * 32) (CELLS (MK m)) = MKP xs m (j + 1) := by
  have hl : (CELLS (MK m)).length = 32 := rfl
  have hk : (CELLS (MKS m j)).length = j * 32 := by rw [CELLS, List.length_map, MKS_length]; omega
  rw [OVERW_eq _ _ _ (by rw [MKP_length h (by omega), hl]; omega), hl]
  unfold MKP
  rw [List.take_left' hk, List.drop_append, List.drop_of_length_le (by omega), List.nil_append, hk, List.drop_drop, MKS, CELLS_append]
  rw [show 32 * j + (j * 32 + 32 - j * 32) = 32 * (j + 1) by omega]
theorem step_pure {o : Oper} {a : Act} {w w' : World} {K : Act → World → Prop} {Q : Exit → Act → World → Prop} {v : Value} (hrun : (execOp a.eval o).run Tryd.prog w = .ok (.value v) w') (h : K (a.put o.dst v) w') : Oper.wp Tryd.prog o a w K Q := by
  unfold Oper.wp
  rw [hrun]
  exact h
end Go.Proofs.YtfjmbfppilfepaaDoor
