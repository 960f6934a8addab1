/- Texts of ProofWrites, one behind the other: ProofTexts, ProofRow. -/
import Derived.Test.YtfjmbfppilfepaaDoorProofWritesP15
import Derived.Test.YtfjmbfppilfepaaDoorProofWritesP18
/- The same bytes in a list of their own that goes on behind them; are these the same bytes? -/
namespace Go.Proofs.YtfjmbfppilfepaaDoor
open Go.RowKit
set_option maxRecDepth 100000

theorem own_front {w : World} {base g n cap : Nat} {l : List Int} {x : Int} (h : w.ownsRow base 5 1 (.slice (some ⟨g, 0, none⟩) (n + 1) cap) (n + 1) (CELLS (l ++ [x]))) (hl : l.length = n) : w.ownsRow base 5 1 (.slice (some ⟨g, 0, none⟩) n cap) n (CELLS l) ∧ n + 1 ≤ cap ∧ w.cell? ⟨g, n, none⟩ = some (.int .u8 x) := by
  have hc := h.cellAt n (by omega)
  have hx : (CELLS (l ++ [x]))[n]? = some (.int .u8 x) := by
    rw [← hl]
    simp [CELLS]
  rcases h.2 with ⟨e, _⟩ | ⟨g', cap', cur, e, hb, hg, h1, h2, h3, h4⟩
  · cases e
  · cases e
    refine ⟨⟨by rw [CELLS, List.length_map, hl, Nat.mul_one], .inr ⟨g, cap, cur, rfl, hb, hg, by omega, h2, h3, ?_⟩⟩, h1, hc.trans hx⟩
    have h5 := congrArg (List.take (n * 1)) h4
    rw [List.take_take, show min (n * 1) ((n + 1) * 1) = n * 1 by omega] at h5
    rw [h5, CELLS_append, List.take_left' (by rw [CELLS, List.length_map, hl, Nat.mul_one])]
/-- what text answers. -/
def TEXTED (w : World) (n : Nat) (l : List Int) (e : Ending) (w' : World) : Prop :=
  ∃ g cap, e = .returned (.slice (some ⟨g, 0, none⟩) n cap) ∧ w'.ownsRow w.heap.size 5 1 (.slice (some ⟨g, 0, none⟩) n cap) n (CELLS l) ∧ n + 1 ≤ cap ∧ w'.cell? ⟨g, n, none⟩ = some (.int .u8 171) ∧ g < w'.heap.size ∧ Below w.heap.size w w'
set_option maxHeartbeats 1000000 in
theorem text_ok (a : Option Addr) (n c : Nat) (hn : n ≤ 1000000) (hc : a = none → c = 0) (l : List Int) (w : World) (hB : Bytes w a n l) : Calls Tryd.prog 11 #[.slice a n c] w (TEXTED w n l) := by
  have HA : Aside (n ≤ 1000000 ∧ (a = none → c = 0) ∧ Bytes w a n l) := ⟨hn, hc, hB⟩
  clear hn hc hB
  go_enter Tryd.func11, Tryd.ntmps11
  go_wp2_with (at_builtin; first
    | (refine app_any _ rfl (.tmp 3) (.tmp 4) rfl w.heap.size (.slice (some ⟨w.heap.size, 0, none⟩) 0 0) 0 [] rfl (own_empty w _ (Nat.le_refl _)) a n c l rfl (HA.out.2.2.below ((Below.refl _ _).alloc (Nat.le_refl _) _)) HA.out.2.1 n l (Nat.zero_add n) rfl (by have := HA.out.1; omega) (by simp) ?_; intro a1 c1 w1 hown1 hgrow1
       have R1 : Aside (w1.ownsRow w.heap.size 5 1 (.slice a1 n c1) n (CELLS l) ∧ Below w.heap.size w w1) := ⟨hown1, ((Below.refl _ w).alloc (Nat.le_refl _) _).grown hgrow1 (by simp) (fun k e => by cases e; exact Nat.le_refl _)⟩
       clear hown1 hgrow1)
    | (refine app_u8 _ rfl (.tmp 5) (.tmp 6) rfl w.heap.size (.slice a1 n c1) n l rfl (R1.out.1.alloc _) w1.heap.size 0 1 1 [171] rfl (one_bytes w1 171 (by decide) (by decide)) (by decide) (by have := HA.out.1; omega) (by have := R1.out.2.size; simp; omega) ?_; intro g2 c2 w2 hown2 hgrow2 hg2
       obtain ⟨f1, f2, f3⟩ := own_front hown2 HA.out.2.2.1
       have hcap : (n : Int) ≤ (c2 : Int) := by omega
       have R2 : Aside (w2.ownsRow w.heap.size 5 1 (.slice (some ⟨g2, 0, none⟩) n c2) n (CELLS l) ∧ n + 1 ≤ c2 ∧ w2.cell? ⟨g2, n, none⟩ = some (.int .u8 171) ∧ g2 < w2.heap.size ∧ Below w.heap.size w w2) := ⟨f1, f2, f3, hg2, (R1.out.2.alloc R1.out.2.size _).grown hgrow2 (by have := R1.out.2.size; simp; omega) (fun k e => (R1.out.1.lt k e).1)⟩
       clear hown2 hgrow2 hg2 f1 f2 f3))
  go_ret
  exact ⟨_, _, rfl, R2.out⟩
end Go.Proofs.YtfjmbfppilfepaaDoor

/- The same hashes in a list of their own that goes on behind them; are these the same bytes, the same proofs? -/
namespace Go.Proofs.YtfjmbfppilfepaaDoor
open Go.RowKit
set_option maxRecDepth 100000

theorem bytes_ext {l k : List Int} {n : Nat} (hl : l.length = n) (hk : k.length = n) (h : ∀ j, j < n → l.getD j 0 = k.getD j 0) : l = k := by
  apply List.ext_getElem (by omega)
  intro i h1 h2
  have := h i (by omega)
  simpa [List.getD, h1, h2] using this
set_option maxHeartbeats 1000000 in
theorem samebytes_ok (a b : Option Addr) (n m ca cb : Nat) (l k : List Int) (w : World) (hA : Bytes w a n l) (hB : Bytes w b m k) (hn : n ≤ 1000000) : Calls Tryd.prog 42 #[.slice a n ca, .slice b m cb] w fun e w' => e = .returned (.bool (decide (l = k))) ∧ Below w.heap.size w w' := by
  by_cases hnm : n = m
  · subst hnm
    rcases Nat.eq_zero_or_pos n with h | h
    · subst h
      have hd : decide (l = k) = true := by
        rw [List.eq_nil_of_length_eq_zero hA.1, List.eq_nil_of_length_eq_zero hB.1]
        rfl
      rw [hd]
      clear hA hB hd
      go_enter Tryd.func42, Tryd.ntmps42
      go_wp2
      refine wp_loop_rounds 1 ?_
      rw [rounds_succ]
      go_wp2
      go_ret
      exact ⟨rfl, Below.refl _ _⟩
    · obtain ⟨ba, oa, rfl, la, hca⟩ := hA.2.1 h
      obtain ⟨bb, ob, rfl, lb, hcb⟩ := hB.2.1 h
      have HC : Aside ((∀ i, i < n → w.cell? ⟨ba, oa + i, none⟩ = some (.int .u8 (l.getD i 0))) ∧ (∀ i, i < n → w.cell? ⟨bb, ob + i, none⟩ = some (.int .u8 (k.getD i 0))) ∧ ba < w.heap.size ∧ bb < w.heap.size ∧ l.length = n ∧ k.length = n ∧ n ≤ 1000000) := ⟨hca, hcb, la, lb, hA.1, hB.1, hn⟩
      clear hA hB hca hcb la lb hn
      obtain ⟨D, hD⟩ : ∃ D, D = decide (l = k) := ⟨_, rfl⟩
      rw [← hD]
      have HD : Aside (D = decide (l = k)) := hD
      clear hD
      go_enter Tryd.func42, Tryd.ntmps42
      go_wp2
      go_loopg [5] n (fun g s5 wx => ∃ i : Nat, s5 = .int .i64 i ∧ Aside (i + g = n ∧ Below w.heap.size w wx ∧ ∀ j, j < i → l.getD j 0 = k.getD j 0))
      case atStart => exact ⟨0, rfl, by omega, Below.refl _ _, fun j hj => by omega⟩
      case round =>
        obtain ⟨i, rfl, A⟩ := hrel
        cases gk with
        | zero =>
          obtain rfl : i = n := by have := A.out.1; omega
          have hlt : ¬ (i : Int) < (i : Int) := by omega
          have hd : Aside (D = true) := by
            show D = true
            rw [HD.out, decide_eq_true_iff]
            exact bytes_ext HC.out.2.2.2.2.1 HC.out.2.2.2.2.2.1 A.out.2.2
          clear HD HC
          go_wp2
          go_ret
          exact ⟨by rw [hd.out]; rfl, A.out.2.1⟩
        | succ g =>
          obtain ⟨hig, hbel, hbef⟩ := A.out
          have hlt : (i : Int) < (n : Int) := by omega
          have h1 : wr.cell? ⟨ba, oa + i, none⟩ = some (.int .u8 (l.getD i 0)) := (hbel.cell (by exact HC.out.2.2.1)).trans (HC.out.1 i (by omega))
          have h2 : wr.cell? ⟨bb, ob + i, none⟩ = some (.int .u8 (k.getD i 0)) := (hbel.cell (by exact HC.out.2.2.2.1)).trans (HC.out.2.1 i (by omega))
          have E1 : Aside (wrap64 ((i : Int) + 1) = ((i + 1 : Nat) : Int)) := by have := HC.out.2.2.2.2.2.2; show wrap64 ((i : Int) + 1) = ((i + 1 : Nat) : Int); unfold wrap64; omega
          by_cases he : l.getD i 0 = k.getD i 0
          · have B : Aside (i + 1 + g = n ∧ Below w.heap.size w wr ∧ ∀ j, j < i + 1 → l.getD j 0 = k.getD j 0) := ⟨by omega, hbel, fun j hj => by
              by_cases e : j = i
              · rw [e]; exact he
              · exact hbef j (by omega)⟩
            rw [← he] at h2
            clear he hig hbel hbef A HD HC
            generalize l.getD i 0 = v at h1 h2
            have e1 := E1.out
            go_wp2
            go_quiet (fail)
            go_wp2
            go_roundg g
            case measure => exact Nat.lt_succ_self _
            case rel => exact ⟨i + 1, by first | rfl | (rw [E1.out]), B.out.1, below_drewN B.out.2.1 _, B.out.2.2⟩
          · have hd : Aside (D = false) := by
              show D = false
              rw [HD.out, decide_eq_false_iff_not]
              intro e
              rw [e] at he
              exact he rfl
            have Z : Aside (Below w.heap.size w wr) := hbel
            clear hig hbel hbef A HD HC E1
            generalize l.getD i 0 = v1 at h1 he
            generalize k.getD i 0 = v2 at h2 he
            go_wp2
            go_quiet (fail)
            go_wp2
            go_ret
            exact ⟨by rw [hd.out]; rfl, below_drewN Z.out _⟩
  · have hne : ¬ (n : Int) = (m : Int) := by omega
    have hd : decide (l = k) = false := by
      rw [decide_eq_false_iff_not]
      intro e
      rw [e] at hA
      exact hnm (hA.1.symm.trans hB.1)
    rw [hd]
    clear hA hB hd
    go_enter Tryd.func42, Tryd.ntmps42
    go_wp2
    go_ret
    exact ⟨rfl, Below.refl _ _⟩
theorem bytes_ok (a b : Option Addr) (n m ca cb : Nat) (l k : List Int) (w : World) (hA : Bytes w a n l) (hB : Bytes w b m k) (hn : n ≤ 1000000) : Calls Tryd.prog 15 #[.slice a n ca, .slice b m cb] w fun e w' => e = .returned (.bool (decide (l = k))) ∧ Below w.heap.size w w' := by
  have c := samebytes_ok a b n m ca cb l k w hA hB hn
  clear hA hB
  go_enter Tryd.func15, Tryd.ntmps15
  go_wp2_with fail
  refine c.mono ?_
  rintro e w5 ⟨rfl, hb5⟩
  go_wp2
  go_ret
  exact ⟨rfl, hb5⟩
/-- two proofs that are alike, field by field. -/
theorem sameproofs_ok (X Y : Int) (a b : Option Addr) (n m ca cb : Nat) (l : List Int) (w : World) (hA : Flat w a n l) (hB : Flat w b m l) (hn : n ≤ 1000000) :
    Calls Tryd.prog 10 #[.agg #[.int .u64 X, .int .u64 Y, .slice a n ca], .agg #[.int .u64 X, .int .u64 Y, .slice b m cb]] w fun e w' => e = .returned (.bool true) ∧ Below w.heap.size w w' := by
  have C : Aside (∀ W, Below w.heap.size w W → Calls Tryd.prog 24 #[.slice a n ca, .slice b m cb] W fun e w' => e = .returned (.bool true) ∧ Below w.heap.size w w') := fun W h => by
    refine (samehashes_ok a b n m ca cb l l W (hA.below h) (hB.below h) hn).mono ?_
    rintro e w' ⟨rfl, hb⟩
    exact ⟨by simp, h.trans (hb.mono h.size)⟩
  have Z : Aside (Below w.heap.size w ((w.alloc (.cells #[.int .u64 X, .int .u64 Y, .slice a n ca] 25)).alloc (.cells #[.int .u64 X, .int .u64 Y, .slice b m cb] 25))) := ((Below.refl _ _).alloc (Nat.le_refl _) _).alloc (by simp) _
  clear hA hB hn
  go_enter Tryd.func10, Tryd.ntmps10
  go_wp2_with fail
  refine (C.out _ Z.out).mono ?_
  rintro e w5 ⟨rfl, hb5⟩
  clear C Z
  go_wp2
  go_ret
  exact ⟨rfl, hb5⟩
theorem sameprefixes_ok (X Y : Int) (a b : Option Addr) (n m ca cb : Nat) (l : List Int) (w : World) (hA : Flat w a n l) (hB : Flat w b m l) (hn : n ≤ 1000000) :
    Calls Tryd.prog 14 #[.agg #[.int .u64 X, .int .u64 Y, .slice a n ca], .agg #[.int .u64 X, .int .u64 Y, .slice b m cb]] w fun e w' => e = .returned (.bool true) ∧ Below w.heap.size w w' := by
  have C : Aside (∀ W, Below w.heap.size w W → Calls Tryd.prog 24 #[.slice a n ca, .slice b m cb] W fun e w' => e = .returned (.bool true) ∧ Below w.heap.size w w') := fun W h => by
    refine (samehashes_ok a b n m ca cb l l W (hA.below h) (hB.below h) hn).mono ?_
    rintro e w' ⟨rfl, hb⟩
    exact ⟨by simp, h.trans (hb.mono h.size)⟩
  have Z : Aside (Below w.heap.size w ((w.alloc (.cells #[.int .u64 X, .int .u64 Y, .slice a n ca] 27)).alloc (.cells #[.int .u64 X, .int .u64 Y, .slice b m cb] 27))) := ((Below.refl _ _).alloc (Nat.le_refl _) _).alloc (by simp) _
  clear hA hB hn
  go_enter Tryd.func14, Tryd.ntmps14
  go_wp2_with fail
  refine (C.out _ Z.out).mono ?_
  rintro e w5 ⟨rfl, hb5⟩
  clear C Z
  go_wp2
  go_ret
  exact ⟨rfl, hb5⟩
/-! a list of hashes, copied with a mark behind it -/
theorem Flat.none_nil {w : World} {n : Nat} {l : List Int} (h : Flat w none n l) : n = 0 ∧ l = [] := by
  have h0 : n = 0 := by
    rcases Nat.eq_zero_or_pos n with h0 | h0
    · exact h0
    · obtain ⟨_, _, e, _⟩ := h.2.1 h0
      cases e
  subst h0
  exact ⟨rfl, List.eq_nil_of_length_eq_zero h.1⟩
theorem own_shapeh {w : World} {B n : Nat} {v : Value} {xs : List Value} (h : w.ownsRow B 53 32 v n xs) : ∃ a c, v = .slice a n c ∧ n ≤ c ∧ (0 < n → ∃ g, a = some ⟨g, 0, none⟩) := by
  rcases h.2 with ⟨rfl, h0⟩ | ⟨g, cap, cur, rfl, _, _, h1, _⟩
  · subst h0
    exact ⟨none, 0, rfl, Nat.le_refl _, fun h => by omega⟩
  · exact ⟨_, _, rfl, h1, fun _ => ⟨g, rfl⟩⟩
theorem app_hashes {ops : Array Oper} {rest : List Oper} {o : Oper} {a : Act} {Q : Exit → Act → World → Prop} (w : World) (hgd : o.guard = none) (s x : Operand)
    (ho : o.op = .call { callee := .builtin .append, args := #[s, x], argTypes := #[23, 23] })
    (base : Nat) (v : Value) (n : Nat) (xs : List Value) (hs : a.eval s = v) (hown : w.ownsRow base 53 32 v n xs)
    (ad : Option Addr) (m c : Nat) (l : List Int) (hx : a.eval x = .slice ad m c) (hL : Flat w ad m l) (hc : ad = none → c = 0)
    (hb : n + m ≤ 100000) (hbase : base ≤ w.heap.size)
    (hh : ∀ a' c' w', w'.ownsRow base 53 32 (.slice a' (n + m) c') (n + m) (xs ++ CELLS l) → w.grownBy w' v.ownBlock → wpList Tryd.prog ops Q rest (a.put o.dst (.slice a' (n + m) c')) w') : wpList Tryd.prog ops Q (o :: rest) a w := by
  obtain ⟨i, hi, hz, hs1, hby⟩ := info_parts info_hashv
  cases ad with
  | none =>
    obtain rfl := hc rfl
    obtain ⟨rfl, rfl⟩ := hL.none_nil
    refine wpList_append_own_none hgd s x 23 ho base 53 i 32 Tryd.underlying23 hi v n xs hs hown hx ?_
    obtain ⟨a', c', rfl, _, _⟩ := own_shapeh hown
    have := hh a' c' w (by simpa [CELLS] using hown) (grown_refl _ _)
    simpa using this
  | some ad =>
    have hcells : ∀ j u, (CELLS l)[j]? = some u → w.cell? (ad.add j) = some u := by
      intro j u hu
      have hj : j < l.length := by
        have := (List.getElem?_eq_some_iff.1 hu).1
        simpa [CELLS] using this
      have hl := hL.1
      obtain ⟨g, o', e, _, hc'⟩ := hL.2.1 (by omega)
      cases e
      rw [addr_add, hc' j (by omega), ← hu, CELLS_get l j hj]
    refine wpList_append_own w hgd s x 23 ho base 53 i _ 32 32 Tryd.underlying23 hi hz hs1 hby rfl (by decide) v n xs hs hown ad m c (CELLS l) hx (by rw [CELLS, List.length_map, hL.1]; omega) hcells (CELLS_one l) (by simp only [maxLen]; omega) (by omega) hbase ?_
    intro v' w' h1 h2 _
    obtain ⟨a', c', rfl, _, _⟩ := own_shapeh h1
    exact hh a' c' w' h1 h2
/-- the mark behind a list of hashes. -/
def MRK : List Int := 171 :: List.replicate 31 0
theorem MRK_arr : (CELLS MRK).toArray = #[.int .u8 171, .int .u8 0, .int .u8 0, .int .u8 0, .int .u8 0, .int .u8 0, .int .u8 0, .int .u8 0, .int .u8 0, .int .u8 0, .int .u8 0, .int .u8 0, .int .u8 0, .int .u8 0, .int .u8 0, .int .u8 0, .int .u8 0, .int .u8 0, .int .u8 0, .int .u8 0, .int .u8 0, .int .u8 0, .int .u8 0, .int .u8 0, .int .u8 0, .int .u8 0, .int .u8 0, .int .u8 0, .int .u8 0, .int .u8 0, .int .u8 0, .int .u8 0] := rfl
theorem own_front32 {w : World} {base g n cap : Nat} {l m : List Int} (h : w.ownsRow base 53 32 (.slice (some ⟨g, 0, none⟩) (n + 1) cap) (n + 1) (CELLS l ++ CELLS m)) (hl : l.length = 32 * n) (hm : m.length = 32) : w.ownsRow base 53 32 (.slice (some ⟨g, 0, none⟩) n cap) n (CELLS l) ∧ n + 1 ≤ cap ∧ w.rangeAt g (n * 32) (CELLS m) ∧ g < w.heap.size := by
  have hr : w.rangeAt g (n * 32) (CELLS m) := by
    intro j v hv
    have hj : j < 32 := by
      have := (List.getElem?_eq_some_iff.1 hv).1
      simpa [CELLS, hm] using this
    have := h.cellAt (n * 32 + j) (by omega)
    rw [this, List.getElem?_append_right (by simp [CELLS]; omega), show n * 32 + j - (CELLS l).length = j by simp [CELLS]; omega]
    exact hv
  rcases h.2 with ⟨e, _⟩ | ⟨g', cap', cur, e, hb, hg, h1, h2, h3, h4⟩
  · cases e
  · cases e
    refine ⟨⟨by rw [CELLS, List.length_map, hl, Nat.mul_comm], .inr ⟨g, cap, cur, rfl, hb, hg, by omega, h2, h3, ?_⟩⟩, h1, hr, (Array.getElem?_eq_some_iff.1 hg).1⟩
    have h5 := congrArg (List.take (n * 32)) h4
    rw [List.take_take, show min (n * 32) ((n + 1) * 32) = n * 32 by omega] at h5
    rw [h5, List.take_left' (by rw [CELLS, List.length_map, hl, Nat.mul_comm])]
/-- what row answers. -/
def ROWED (w : World) (n : Nat) (l : List Int) (e : Ending) (w' : World) : Prop :=
  ∃ g cap, e = .returned (.slice (some ⟨g, 0, none⟩) n cap) ∧ w'.ownsRow w.heap.size 53 32 (.slice (some ⟨g, 0, none⟩) n cap) n (CELLS l) ∧ n + 1 ≤ cap ∧ w'.rangeAt g (n * 32) (CELLS MRK) ∧ g < w'.heap.size ∧ Below w.heap.size w w'
theorem own_empty32 (w : World) : (w.alloc (.cells #[] 53)).ownsRow w.heap.size 53 32 (.slice (some ⟨w.heap.size, 0, none⟩) 0 0) 0 [] :=
  World.ownsRow_lit w #[] 0 (Nat.le_refl _) (by simp [maxLen]) rfl
set_option maxHeartbeats 1000000 in
theorem row_ok (a : Option Addr) (n c : Nat) (hn : n ≤ 1000) (hc : a = none → c = 0) (l : List Int) (w : World) (hF : Flat w a n l) : Calls Tryd.prog 7 #[.slice a n c] w (ROWED w n l) := by
  have HA : Aside (n ≤ 1000 ∧ (a = none → c = 0) ∧ Flat w a n l) := ⟨hn, hc, hF⟩
  clear hn hc hF
  go_enter Tryd.func7, Tryd.ntmps7
  go_wp2_with (first
    | (at_builtin; refine app_hashes _ rfl (.tmp 3) (.tmp 4) rfl w.heap.size (.slice (some ⟨w.heap.size, 0, none⟩) 0 0) 0 [] rfl (own_empty32 w) a n c l rfl (HA.out.2.2.below ((Below.refl _ _).alloc (Nat.le_refl _) _)) HA.out.2.1 (by have := HA.out.1; omega) (by simp) ?_; rw [Nat.zero_add, List.nil_append]; intro a1 c1 w1 hown1 hgrow1
       have R1 : Aside (w1.ownsRow w.heap.size 53 32 (.slice a1 n c1) n (CELLS l) ∧ Below w.heap.size w w1) := ⟨hown1, ((Below.refl _ w).alloc (Nat.le_refl _) _).grown hgrow1 (by simp) (fun k e => by cases e; exact Nat.le_refl _)⟩
       clear hown1 hgrow1)
    | (rw [← MRK_arr]; refine build_one _ rfl 23 53 (.tmp 6) rfl (CELLS MRK).toArray rfl 32 _ _ Tryd.underlying23 info_hashv (by rfl) rfl (by decide) (by decide) ?_)
    | (at_builtin; refine app_hash _ rfl (.tmp 5) (.tmp 7) rfl w.heap.size (.slice a1 n c1) n (CELLS l) rfl (R1.out.1.alloc _) w1.heap.size 1 MRK rfl rfl (Has.new _ _ _) (by have := HA.out.1; omega) (by have := R1.out.2.size; simp; omega) ?_; intro g2 c2 w2 hown2 hgrow2 hat2 hg2
       obtain ⟨f1, f2, f3, f4⟩ := own_front32 hown2 HA.out.2.2.1 rfl
       have hcap : (n : Int) ≤ (c2 : Int) := by omega
       have R2 : Aside (w2.ownsRow w.heap.size 53 32 (.slice (some ⟨g2, 0, none⟩) n c2) n (CELLS l) ∧ n + 1 ≤ c2 ∧ w2.rangeAt g2 (n * 32) (CELLS MRK) ∧ g2 < w2.heap.size ∧ Below w.heap.size w w2) := ⟨f1, f2, f3, f4, (R1.out.2.alloc R1.out.2.size _).grown hgrow2 (by have := R1.out.2.size; simp; omega) (fun k e => (R1.out.1.lt k e).1)⟩
       clear hown2 hgrow2 hat2 hg2 f1 f2 f3 f4))
  go_ret
  exact ⟨_, _, rfl, R2.out⟩
end Go.Proofs.YtfjmbfppilfepaaDoor
