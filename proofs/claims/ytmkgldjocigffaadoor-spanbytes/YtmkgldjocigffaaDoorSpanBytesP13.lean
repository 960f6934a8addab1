/- Texts of SpanBytes, one behind the other: ProofRow, NumRefBytes, NumRefLong. -/
import Derived.Test.YtmkgldjocigffaaDoorSpanBytesP12
/- The same hashes in a list of their own that goes on behind them; are these the same bytes, the same proofs? -/
namespace Go.Proofs.YtmkgldjocigffaaDoor
open Go.RowKit
set_option maxRecDepth 100000

theorem bytes_ext {l k : List Int} {n : Nat} (hl : l.length = n) (hk : k.length = n) (h : ∀ j, j < n → l.getD j 0 = k.getD j 0) : l = k := by
  apply List.ext_getElem (by omega)
  intro i h1 h2
  have := h i (by omega)
  simpa [List.getD, h1, h2] using this
set_option maxHeartbeats 1000000 in
theorem samebytes_ok (a b : Option Addr) (n m ca cb : Nat) (l k : List Int) (w : World) (hA : Bytes w a n l) (hB : Bytes w b m k) (hn : n ≤ 1000000) : Calls Tryd.prog 17 #[.slice a n ca, .slice b m cb] w fun e w' => e = .returned (.bool (decide (l = k))) ∧ Below w.heap.size w w' := by
  by_cases hnm : n = m
  · subst hnm
    rcases Nat.eq_zero_or_pos n with h | h
    · subst h
      have hd : decide (l = k) = true := by
        rw [List.eq_nil_of_length_eq_zero hA.1, List.eq_nil_of_length_eq_zero hB.1]
        rfl
      rw [hd]
      clear hA hB hd
      go_enter Tryd.func17, Tryd.ntmps17
      go_wp2
      refine wp_loop_rounds 1 ?_
      rw [rounds_succ]
      go_wp2
      go_ret
      exact ⟨rfl, Below.refl _ _⟩
    · obtain ⟨ba, oa, rfl, la, hca⟩ := hA.2.1 h
      obtain ⟨bb, ob, rfl, lb, hcb⟩ := hB.2.1 h
      have HC : Aside ((∀ i, i < n → w.cell? ⟨ba, oa + i, none⟩ = some (.int .u8 (l.getD i 0))) ∧ (∀ i, i < n → w.cell? ⟨bb, ob + i, none⟩ = some (.int .u8 (k.getD i 0))) ∧ ba < w.heap.size ∧ bb < w.heap.size ∧ l.length = n ∧ k.length = n ∧ n ≤ 1000000) := ⟨hca, hcb, la, lb, hA.1, hB.1, hn⟩
      clear hA hB hca hcb la lb hn
      obtain ⟨D, hD⟩ : ∃ D, D = decide (l = k) := ⟨_, rfl⟩
      rw [← hD]
      have HD : Aside (D = decide (l = k)) := hD
      clear hD
      go_enter Tryd.func17, Tryd.ntmps17
      go_wp2
      go_loopg [5] n (fun g s5 wx => ∃ i : Nat, s5 = .int .i64 i ∧ Aside (i + g = n ∧ Below w.heap.size w wx ∧ ∀ j, j < i → l.getD j 0 = k.getD j 0))
      case atStart => exact ⟨0, rfl, by omega, Below.refl _ _, fun j hj => by omega⟩
      case round =>
        obtain ⟨i, rfl, A⟩ := hrel
        cases gk with
        | zero =>
          obtain rfl : i = n := by have := A.out.1; omega
          have hlt : ¬ (i : Int) < (i : Int) := by omega
          have hd : Aside (D = true) := by
            show D = true
            rw [HD.out, decide_eq_true_iff]
            exact bytes_ext HC.out.2.2.2.2.1 HC.out.2.2.2.2.2.1 A.out.2.2
          clear HD HC
          go_wp2
          go_ret
          exact ⟨by rw [hd.out]; rfl, A.out.2.1⟩
        | succ g =>
          obtain ⟨hig, hbel, hbef⟩ := A.out
          have hlt : (i : Int) < (n : Int) := by omega
          have h1 : wr.cell? ⟨ba, oa + i, none⟩ = some (.int .u8 (l.getD i 0)) := (hbel.cell (by exact HC.out.2.2.1)).trans (HC.out.1 i (by omega))
          have h2 : wr.cell? ⟨bb, ob + i, none⟩ = some (.int .u8 (k.getD i 0)) := (hbel.cell (by exact HC.out.2.2.2.1)).trans (HC.out.2.1 i (by omega))
          have E1 : Aside (wrap64 ((i : Int) + 1) = ((i + 1 : Nat) : Int)) := by have := HC.out.2.2.2.2.2.2; show wrap64 ((i : Int) + 1) = ((i + 1 : Nat) : Int); unfold wrap64; omega
          by_cases he : l.getD i 0 = k.getD i 0
          · have B : Aside (i + 1 + g = n ∧ Below w.heap.size w wr ∧ ∀ j, j < i + 1 → l.getD j 0 = k.getD j 0) := ⟨by omega, hbel, fun j hj => by
              by_cases e : j = i
              · rw [e]; exact he
              · exact hbef j (by omega)⟩
            rw [← he] at h2
            clear he hig hbel hbef A HD HC
            generalize l.getD i 0 = v at h1 h2
            have e1 := E1.out
            go_wp2
            go_quiet (fail)
            go_wp2
            go_roundg g
            case measure => exact Nat.lt_succ_self _
            case rel => exact ⟨i + 1, by first | rfl | (rw [E1.out]), B.out.1, below_drewN B.out.2.1 _, B.out.2.2⟩
          · have hd : Aside (D = false) := by
              show D = false
              rw [HD.out, decide_eq_false_iff_not]
              intro e
              rw [e] at he
              exact he rfl
            have Z : Aside (Below w.heap.size w wr) := hbel
            clear hig hbel hbef A HD HC E1
            generalize l.getD i 0 = v1 at h1 he
            generalize k.getD i 0 = v2 at h2 he
            go_wp2
            go_quiet (fail)
            go_wp2
            go_ret
            exact ⟨by rw [hd.out]; rfl, below_drewN Z.out _⟩
  · have hne : ¬ (n : Int) = (m : Int) := by omega
    have hd : decide (l = k) = false := by
      rw [decide_eq_false_iff_not]
      intro e
      rw [e] at hA
      exact hnm (hA.1.symm.trans hB.1)
    rw [hd]
    clear hA hB hd
    go_enter Tryd.func17, Tryd.ntmps17
    go_wp2
    go_ret
    exact ⟨rfl, Below.refl _ _⟩
/-! a list of hashes, copied with a mark behind it -/
theorem Flat.none_nil {w : World} {n : Nat} {l : List Int} (h : Flat w none n l) : n = 0 ∧ l = [] := by
  have h0 : n = 0 := by
    rcases Nat.eq_zero_or_pos n with h0 | h0
    · exact h0
    · obtain ⟨_, _, e, _⟩ := h.2.1 h0
      cases e
  subst h0
  exact ⟨rfl, List.eq_nil_of_length_eq_zero h.1⟩
theorem own_shapeh {w : World} {B n : Nat} {v : Value} {xs : List Value} (h : w.ownsRow B 60 32 v n xs) : ∃ a c, v = .slice a n c ∧ n ≤ c ∧ (0 < n → ∃ g, a = some ⟨g, 0, none⟩) := by
  rcases h.2 with ⟨rfl, h0⟩ | ⟨g, cap, cur, rfl, _, _, h1, _⟩
  · subst h0
    exact ⟨none, 0, rfl, Nat.le_refl _, fun h => by omega⟩
  · exact ⟨_, _, rfl, h1, fun _ => ⟨g, rfl⟩⟩
theorem app_hashes {ops : Array Oper} {rest : List Oper} {o : Oper} {a : Act} {Q : Exit → Act → World → Prop} (w : World) (hgd : o.guard = none) (s x : Operand)
    (ho : o.op = .call { callee := .builtin .append, args := #[s, x], argTypes := #[35, 35] })
    (base : Nat) (v : Value) (n : Nat) (xs : List Value) (hs : a.eval s = v) (hown : w.ownsRow base 60 32 v n xs)
    (ad : Option Addr) (m c : Nat) (l : List Int) (hx : a.eval x = .slice ad m c) (hL : Flat w ad m l) (hc : ad = none → c = 0)
    (hb : n + m ≤ 100000) (hbase : base ≤ w.heap.size)
    (hh : ∀ a' c' w', w'.ownsRow base 60 32 (.slice a' (n + m) c') (n + m) (xs ++ CELLS l) → w.grownBy w' v.ownBlock → wpList Tryd.prog ops Q rest (a.put o.dst (.slice a' (n + m) c')) w') : wpList Tryd.prog ops Q (o :: rest) a w := by
  obtain ⟨i, hi, hz, hs1, hby⟩ := info_parts info_hashv
  cases ad with
  | none =>
    obtain rfl := hc rfl
    obtain ⟨rfl, rfl⟩ := hL.none_nil
    refine wpList_append_own_none hgd s x 35 ho base 60 i 32 Tryd.underlying35 hi v n xs hs hown hx ?_
    obtain ⟨a', c', rfl, _, _⟩ := own_shapeh hown
    have := hh a' c' w (by simpa [CELLS] using hown) (grown_refl _ _)
    simpa using this
  | some ad =>
    have hcells : ∀ j u, (CELLS l)[j]? = some u → w.cell? (ad.add j) = some u := by
      intro j u hu
      have hj : j < l.length := by
        have := (List.getElem?_eq_some_iff.1 hu).1
        simpa [CELLS] using this
      have hl := hL.1
      obtain ⟨g, o', e, _, hc'⟩ := hL.2.1 (by omega)
      cases e
      rw [addr_add, hc' j (by omega), ← hu, CELLS_get l j hj]
    refine wpList_append_own w hgd s x 35 ho base 60 i _ 32 32 Tryd.underlying35 hi hz hs1 hby rfl (by decide) v n xs hs hown ad m c (CELLS l) hx (by rw [CELLS, List.length_map, hL.1]; omega) hcells (CELLS_one l) (by simp only [maxLen]; omega) (by omega) hbase ?_
    intro v' w' h1 h2 _
    obtain ⟨a', c', rfl, _, _⟩ := own_shapeh h1
    exact hh a' c' w' h1 h2
/-- the mark behind a list of hashes. -/
def MRK : List Int := 171 :: List.replicate 31 0
theorem MRK_arr : (CELLS MRK).toArray = #[.int .u8 171, .int .u8 0, .int .u8 0, .int .u8 0, .int .u8 0, .int .u8 0, .int .u8 0, .int .u8 0, .int .u8 0, .int .u8 0, .int .u8 0, .int .u8 0, .int .u8 0, .int .u8 0, .int .u8 0, .int .u8 0, .int .u8 0, .int .u8 0, .int .u8 0, .int .u8 0, .int .u8 0, .int .u8 0, .int .u8 0, .int .u8 0, .int .u8 0, .int .u8 0, .int .u8 0, .int .u8 0, .int .u8 0, .int .u8 0, .int .u8 0, .int .u8 0] := rfl
theorem own_front32 {w : World} {base g n cap : Nat} {l m : List Int} (h : w.ownsRow base 60 32 (.slice (some ⟨g, 0, none⟩) (n + 1) cap) (n + 1) (CELLS l ++ CELLS m)) (hl : l.length = 32 * n) (hm : m.length = 32) : w.ownsRow base 60 32 (.slice (some ⟨g, 0, none⟩) n cap) n (CELLS l) ∧ n + 1 ≤ cap ∧ w.rangeAt g (n * 32) (CELLS m) ∧ g < w.heap.size := by
  have hr : w.rangeAt g (n * 32) (CELLS m) := by
    intro j v hv
    have hj : j < 32 := by
      have := (List.getElem?_eq_some_iff.1 hv).1
      simpa [CELLS, hm] using this
    have := h.cellAt (n * 32 + j) (by omega)
    rw [this, List.getElem?_append_right (by simp [CELLS]; omega), show n * 32 + j - (CELLS l).length = j by simp [CELLS]; omega]
    exact hv
  rcases h.2 with ⟨e, _⟩ | ⟨g', cap', cur, e, hb, hg, h1, h2, h3, h4⟩
  · cases e
  · cases e
    refine ⟨⟨by rw [CELLS, List.length_map, hl, Nat.mul_comm], .inr ⟨g, cap, cur, rfl, hb, hg, by omega, h2, h3, ?_⟩⟩, h1, hr, (Array.getElem?_eq_some_iff.1 hg).1⟩
    have h5 := congrArg (List.take (n * 32)) h4
    rw [List.take_take, show min (n * 32) ((n + 1) * 32) = n * 32 by omega] at h5
    rw [h5, List.take_left' (by rw [CELLS, List.length_map, hl, Nat.mul_comm])]
/-- what row answers. -/
def ROWED (w : World) (n : Nat) (l : List Int) (e : Ending) (w' : World) : Prop :=
  ∃ g cap, e = .returned (.slice (some ⟨g, 0, none⟩) n cap) ∧ w'.ownsRow w.heap.size 60 32 (.slice (some ⟨g, 0, none⟩) n cap) n (CELLS l) ∧ n + 1 ≤ cap ∧ w'.rangeAt g (n * 32) (CELLS MRK) ∧ g < w'.heap.size ∧ Below w.heap.size w w'
theorem own_empty32 (w : World) : (w.alloc (.cells #[] 60)).ownsRow w.heap.size 60 32 (.slice (some ⟨w.heap.size, 0, none⟩) 0 0) 0 [] :=
  World.ownsRow_lit w #[] 0 (Nat.le_refl _) (by simp [maxLen]) rfl
end Go.Proofs.YtmkgldjocigffaaDoor

/- What the document's Big, FromBig, Short and Long give. -/
namespace Go.Proofs.YtmkgldjocigffaaDoor
open Go.RowKit

set_option maxHeartbeats 1000000 in
theorem refshort_ok (X : Nat) (hX : X < 2 ^ 64) (w : World) : Calls Tryd.prog 38 #[.int .u64 (X : Int)] w fun e w' =>
    ∃ g cap, e = .returned (.slice (some ⟨g, 0, none⟩) (NTOP X + 1) cap) ∧ w'.ownsRow w.heap.size 5 1 (.slice (some ⟨g, 0, none⟩) (NTOP X + 1) cap) (NTOP X + 1) (CELLS (SHORT X)) ∧ g < w'.heap.size ∧ Below w.heap.size w w' := by
  have HX : Aside (X < 2 ^ 64) := hX
  clear hX
  go_enter Tryd.func38, Tryd.ntmps38
  go_wp2
  go_loopg [0, 3] 10 (fun g s0 s3 wx => ∃ (j x : Nat), j + g = 10 ∧ Aside (x = X / 128 ^ j ∧ (∀ i, i < j → 128 ≤ X / 128 ^ i) ∧ wx.ownsRow w.heap.size 5 1 s3 j (CELLS (GROUPS X j)) ∧ Below w.heap.size w wx) ∧ s0 = .int .u64 (x : Int))
  case atStart => exact ⟨0, X, by omega, ⟨by simp, fun i hi => by omega, World.ownsRow_nil _ _ _ _, Below.refl _ _⟩, rfl⟩
  case round =>
    obtain ⟨j, x, hjg, A, rfl⟩ := hrel
    have hxl : (x : Int) ≤ 18446744073709551615 := by
      have := Nat.div_le_self X (128 ^ j)
      have h1 := A.out.1
      have h2 := HX.out
      omega
    have HXL : Aside ((x : Int) ≤ 18446744073709551615) := hxl
    clear hxl
    by_cases hx : 128 ≤ (x : Int)
    · go_wp2_with (at_builtin; refine app_u8 _ rfl (.tmp 6) (.tmp 11) rfl w.heap.size u3 j (GROUPS X j) rfl (A.out.2.2.1.alloc _) wr.heap.size 0 1 1 [(x : Int) % 128 + 128] rfl (one_bytes wr _ (by omega) (by omega)) (by omega) (by omega) (by have := A.out.2.2.2.size; simp; omega) ?_; intro g cap w1 hown hgrow hg)
      have R : (x / 128 = X / 128 ^ (j + 1)) ∧ (∀ i, i < j + 1 → 128 ≤ X / 128 ^ i) ∧ w1.ownsRow w.heap.size 5 1 (.slice (some ⟨g, 0, none⟩) (j + 1) cap) (j + 1) (CELLS (GROUPS X (j + 1))) ∧ Below w.heap.size w w1 := by
        obtain ⟨hxe, hall, hown0, hb⟩ := A.out
        refine ⟨by rw [hxe, Nat.div_div_eq_div_mul, ← Nat.pow_succ], fun i hi => ?_, ?_, ?_⟩
        · by_cases e : i = j
          · rw [e, ← hxe]; omega
          · exact hall i (by omega)
        · rw [GROUPS_succ, show ((X / 128 ^ j % 128 + 128 : Nat) : Int) = (x : Int) % 128 + 128 by rw [← hxe]; omega]
          exact hown
        · exact (hb.alloc hb.size _).grown hgrow (by have := hb.size; simp; omega) (fun k e => (hown0.lt k e).1)
      have HR : Aside ((x / 128 = X / 128 ^ (j + 1)) ∧ (∀ i, i < j + 1 → 128 ≤ X / 128 ^ i) ∧ w1.ownsRow w.heap.size 5 1 (.slice (some ⟨g, 0, none⟩) (j + 1) cap) (j + 1) (CELLS (GROUPS X (j + 1))) ∧ Below w.heap.size w w1) := R
      have hj9 : j < 9 := by
        obtain ⟨hxe, hall, _, _⟩ := A.out
        rcases Nat.lt_or_ge j 9 with h | h
        · exact h
        · have h1 := div_anti X h
          have h2 : X / 128 ^ 9 < 2 := Nat.div_lt_of_lt_mul (Nat.lt_of_lt_of_le HX.out (by decide))
          omega
      clear hown hgrow hg R A
      go_wp2
      go_roundg (gk - 1)
      case measure => omega
      case rel => exact ⟨j + 1, x / 128, by omega, HR, by have := HXL.out; rw [show IntKind.u64.wrap ((x : Int) / 128) = ((x / 128 : Nat) : Int) by rw [wrapU]; omega]⟩
    · go_wp2_with (at_builtin; refine app_u8 _ rfl (.tmp 15) (.tmp 18) rfl w.heap.size u3 j (GROUPS X j) rfl (A.out.2.2.1.alloc _) wr.heap.size 0 1 1 [(x : Int)] rfl (one_bytes wr _ (by omega) (by omega)) (by omega) (by omega) (by have := A.out.2.2.2.size; simp; omega) ?_; intro g cap w1 hown hgrow hg)
      obtain ⟨hxe, hall, hown0, hb⟩ := A.out
      have hN : NTOP X = j := NTOP_eq HX.out hall (by rw [← hxe]; omega)
      have R : w1.ownsRow w.heap.size 5 1 (.slice (some ⟨g, 0, none⟩) (NTOP X + 1) cap) (NTOP X + 1) (CELLS (SHORT X)) ∧ g < w1.heap.size ∧ Below w.heap.size w w1 := by
        refine ⟨?_, hg, (hb.alloc hb.size _).grown hgrow (by have := hb.size; simp; omega) (fun k e => (hown0.lt k e).1)⟩
        unfold SHORT
        rw [hN, ← hxe]
        exact hown
      have HR : Aside (w1.ownsRow w.heap.size 5 1 (.slice (some ⟨g, 0, none⟩) (NTOP X + 1) cap) (NTOP X + 1) (CELLS (SHORT X)) ∧ g < w1.heap.size ∧ Below w.heap.size w w1) := R
      have HN : Aside (NTOP X = j) := hN
      clear hown hgrow hg R A hxe hall hown0 hb hN
      go_wp2
      go_ret
      obtain ⟨h1, h2, h3⟩ := HR.out
      refine ⟨g, cap, ?_, h1, h2, h3⟩
      rw [HN.out]
      rfl
end Go.Proofs.YtmkgldjocigffaaDoor

/- What the document's Long gives. -/
namespace Go.Proofs.YtmkgldjocigffaaDoor
open Go.RowKit

theorem reflong_empty (a : Option Addr) (c : Nat) (w : World) : Calls Tryd.prog 43 #[.slice a 0 c] w fun e w' => e = .returned (.tuple #[.int .u64 0, .int .i64 0, .int .i64 11]) ∧ w = w' := by
  go_enter Tryd.func43, Tryd.ntmps43
  go_wp2
  refine wp_loop_rounds 1 ?_
  rw [rounds_succ]
  go_wp2
  go_ret3
  exact ⟨rfl, rfl⟩
/-- the groups from j on, put together from the highest one down. -/
def Tops (d : Nat → Nat) (j : Nat) (x : Int) (V : Nat) : Prop := ∃ y : Nat, x = (y : Int) ∧ VAL d j + y * 128 ^ j = V
theorem Tops.down {d : Nat → Nat} {j V : Nat} {x v : Int} (A : Tops d (j + 1) x V) (hV : V < 2 ^ 64) (hv : (v % 128).toNat = d j) : Tops d j (IntKind.u64.wrap (IntKind.u64.wrap (128 * x) + v % 128)) V := by
  obtain ⟨y, rfl, hy⟩ := A
  have e : VAL d j + (128 * y + d j) * 128 ^ j = V := by
    rw [← hy, VAL, Nat.add_mul, Nat.pow_succ, Nat.mul_comm 128 y, Nat.mul_assoc, Nat.mul_comm 128 (128 ^ j)]
    omega
  have hl : 128 * y + d j ≤ V := by
    have h1 : (128 * y + d j) * 1 ≤ (128 * y + d j) * 128 ^ j := Nat.mul_le_mul_left _ (Nat.pow_pos (by decide))
    omega
  refine ⟨128 * y + d j, ?_, e⟩
  rw [wrapU, wrapU, ← hv]
  omega

theorem LG_all {l : List Int} {n : Nat} (hn : 10 ≤ n) (h : ∀ i, i < 10 → 128 ≤ l.getD i 0) : LG l n 10 0 0 = (0, 0, 10) := by
  have := LG_run 10 0 h (fun i hi => by omega) (n := n)
  simpa [LG] using this
theorem LG_cutoff {l : List Int} {n : Nat} (hn : n < 10) (h : ∀ i, i < n → 128 ≤ l.getD i 0) : LG l n 10 0 0 = (0, 0, 11) := by
  have := LG_run n (9 - n + 1) h (fun i hi => by omega) (n := n)
  rw [show 9 - n + 1 + n = 10 by omega, LG_end rfl] at this
  exact this
theorem LG_stop {l : List Int} {n m : Nat} (hm : m ≤ 9) (hmn : m < n) (h : ∀ i, i < m → 128 ≤ l.getD i 0) (h1 : ¬ 128 ≤ l.getD m 0) :
    LG l n 10 0 0 = if m = 9 ∧ 1 < l.getD m 0 then (0, 0, 10) else if l.getD m 0 = 0 ∧ 0 < m then (0, 0, 12) else ((VAL (DIG l) m : Nat) + l.getD m 0 * 128 ^ m, (m : Int) + 1, 0) := by
  rw [show 10 = 9 - m + 1 + m by omega, LG_run m (9 - m + 1) h (fun i hi => by omega), LG_hit (by omega) h1]

theorem ok_val {l : List Int} {k : Nat} {v r1 : Int} (hr : ∀ i, 0 ≤ l.getD i 0 ∧ l.getD i 0 ≤ 255) (hv : l.getD k 0 = v) (hk : k ≤ 9) (h1 : v < 128) (h9 : k = 9 → v ≤ 1) (he : r1 = (VAL (DIG l) k : Nat) + v * 128 ^ k) :
    Tops (DIG l) (k + 1) 0 (VAL (DIG l) (k + 1)) ∧ VAL (DIG l) (k + 1) < 2 ^ 64 ∧ r1 = ((VAL (DIG l) (k + 1) : Nat) : Int) := by
  have hd : ((DIG l k : Nat) : Int) = v := by
    have := hr k
    unfold DIG
    rw [hv] at this ⊢
    omega
  have hvl := VAL_lt (DIG_lt l) k
  refine ⟨⟨0, rfl, by simp⟩, ?_, ?_⟩
  · rw [VAL]
    by_cases h : k = 9
    · subst h
      have := h9 rfl
      have hd1 : DIG l 9 ≤ 1 := by omega
      have h3 : DIG l 9 * 128 ^ 9 ≤ 1 * 128 ^ 9 := Nat.mul_le_mul_right _ hd1
      omega
    · have h8 := Nat.pow_le_pow_right (n := 128) (by decide) (show k ≤ 8 by omega)
      have h5 : DIG l k * 128 ^ k ≤ 127 * 128 ^ 8 := Nat.mul_le_mul (by have := DIG_lt l k; omega) h8
      omega
  · rw [he, VAL, Int.natCast_add, Int.natCast_mul, Int.natCast_pow, hd]
    rfl

set_option maxHeartbeats 4000000 in
theorem reflong_raw (b off n c : Nat) (l : List Int) (r1 r2 r3 : Int) (hR : Aside (LG l n 10 0 0 = (r1, r2, r3))) (w : World) (hB : Bytes w (some ⟨b, off, none⟩) n l) (h0 : 0 < n) (hmax : n ≤ 140737488355328) :
    Calls Tryd.prog 43 #[.slice (some ⟨b, off, none⟩) n c] w fun e w' => e = .returned (.tuple #[.int .u64 r1, .int .i64 r2, .int .i64 r3]) ∧ w = w' := by
  obtain ⟨b', off', e, _, hc0⟩ := hB.2.1 h0
  simp only [Option.some.injEq, Addr.mk.injEq] at e
  obtain ⟨rfl, rfl, _⟩ := e
  have HC : Aside ((∀ i, i < n → w.cell? ⟨b, off + i, none⟩ = some (.int .u8 (l.getD i 0))) ∧ ∀ i, 0 ≤ l.getD i 0 ∧ l.getD i 0 ≤ 255) := ⟨hc0, hB.get⟩
  clear hB hc0
  go_enter Tryd.func43, Tryd.ntmps43
  go_wp2
  go_loop [5] (fun s5 => ∃ k : Nat, k ≤ n ∧ k ≤ 10 ∧ Aside (∀ i, i < k → 128 ≤ l.getD i 0) ∧ s5 = .int .i64 k) (fun i => 10 - (intOf i).toNat)
  case atStart => exact ⟨0, by omega, by omega, fun i hi => by omega, rfl⟩
  case round =>
    obtain ⟨k, hkn, hk10, A, rfl⟩ := hrel
    by_cases hlt : (k : Int) < (n : Int)
    · by_cases h10 : (k : Int) < 10
      · have hc := HC.out.1 k (by omega)
        have hcb := HC.out.2 k
        generalize hv : l.getD k 0 = v at hc hcb
        have Hv : Aside (l.getD k 0 = v) := hv
        clear hv
        have hv0 := hcb.1
        have hv1 := hcb.2
        clear hcb
        by_cases h128 : 128 ≤ v
        · go_wp2
          go_round
          case rel =>
            refine ⟨k + 1, by omega, by omega, fun i hi => ?_, by go_num⟩
            by_cases e : i = k
            · rw [e, Hv.out]; exact h128
            · exact A.out i (by omega)
          case measure => first | (simp [intOf]; done) | (simp [intOf]; omega)
        · have hst := LG_stop (l := l) (n := n) (m := k) (by omega) (by omega) A.out (by rw [Hv.out]; exact h128)
          rw [Hv.out, hR.out] at hst
          have hk10' : ((k : Int) == 10) = false := by simp; omega
          have hkn' : ((k : Int) == (n : Int)) = false := by simp; omega
          by_cases h9 : k = 9
          · subst h9
            by_cases hr : 1 < v
            · rw [if_pos ⟨rfl, hr⟩] at hst
              simp only [Prod.mk.injEq] at hst
              obtain ⟨rfl, rfl, rfl⟩ := hst
              clear A
              go_wp2
              go_ret3
              exact ⟨rfl, rfl⟩
            · rw [if_neg (fun h => hr h.2)] at hst
              by_cases hz : v = 0
              · subst hz
                rw [if_pos ⟨rfl, by decide⟩] at hst
                simp only [Prod.mk.injEq] at hst
                obtain ⟨rfl, rfl, rfl⟩ := hst
                clear A
                go_wp2
                go_ret3
                exact ⟨rfl, rfl⟩
              · rw [if_neg (fun h => hz h.1)] at hst
                simp only [Prod.mk.injEq] at hst
                have hvb : (v == 0) = false := by simp [hz]
                clear hz
                have HV : Aside (Tops (DIG l) (9 + 1) 0 (VAL (DIG l) (9 + 1)) ∧ VAL (DIG l) (9 + 1) < 2 ^ 64 ∧ r1 = ((VAL (DIG l) (9 + 1) : Nat) : Int)) := ok_val (HC.out.2) Hv.out (by omega) (by omega) (by omega) hst.1
                obtain ⟨_, rfl, rfl⟩ := hst
                clear A
                go_wp2
                go_loop [6, 7] (fun s6 s7 => ∃ (j : Nat) (x : Int), j ≤ 9 + 1 ∧ Aside (Tops (DIG l) j x (VAL (DIG l) (9 + 1))) ∧ s6 = .int .u64 x ∧ s7 = .int .i64 ((j : Int) - 1)) (fun _ s => (intOf s + 1).toNat)
                case atStart => exact ⟨9 + 1, 0, Nat.le_refl _, HV.out.1, rfl, by first | rfl | go_num⟩
                case round =>
                  obtain ⟨j, x, hj, B, rfl, rfl⟩ := hrel
                  cases j with
                  | zero =>
                    obtain rfl : x = r1 := by
                      obtain ⟨y, rfl, hy⟩ := B.out
                      rw [HV.out.2.2, ← hy]
                      simp [VAL]
                    clear B HV
                    go_wp2
                    go_ret3
                    exact ⟨rfl, rfl⟩
                  | succ i =>
                    have hi1 : ((i + 1 : Nat) : Int) - 1 = (i : Int) := by omega
                    rw [hi1]
                    have hi0 : (0 : Int) ≤ (i : Int) := by omega
                    have hin : (i : Int) < (n : Int) := by omega
                    have hci := HC.out.1 i (by omega)
                    have hcbi := HC.out.2 i
                    generalize hvi : l.getD i 0 = u at hci hcbi
                    have Hu : Aside (l.getD i 0 = u) := hvi
                    clear hvi hi1
                    have hu0 := hcbi.1
                    have hu1 := hcbi.2
                    clear hcbi
                    go_wp2
                    go_round
                    case rel => exact ⟨i, _, by omega, B.out.down HV.out.2.1 (by unfold DIG; rw [Hu.out]), rfl, by go_num⟩
                    case measure => first | (simp [intOf]; done) | (simp [intOf]; omega)
          · rw [if_neg (fun h => h9 h.1)] at hst
            have h9' : ((k : Int) == 9) = false := by simp; omega
            by_cases hk0 : k = 0
            · subst hk0
              rw [if_neg (fun h => by omega)] at hst
              rw [Nat.add_zero] at hc
              simp only [Prod.mk.injEq] at hst
              have HV : Aside (Tops (DIG l) (0 + 1) 0 (VAL (DIG l) (0 + 1)) ∧ VAL (DIG l) (0 + 1) < 2 ^ 64 ∧ r1 = ((VAL (DIG l) (0 + 1) : Nat) : Int)) := ok_val (HC.out.2) Hv.out (by omega) (by omega) (by omega) hst.1
              obtain ⟨_, rfl, rfl⟩ := hst
              clear A
              go_wp2
              go_loop [6, 7] (fun s6 s7 => ∃ (j : Nat) (x : Int), j ≤ 0 + 1 ∧ Aside (Tops (DIG l) j x (VAL (DIG l) (0 + 1))) ∧ s6 = .int .u64 x ∧ s7 = .int .i64 ((j : Int) - 1)) (fun _ s => (intOf s + 1).toNat)
              case atStart => exact ⟨0 + 1, 0, Nat.le_refl _, HV.out.1, rfl, by first | rfl | go_num⟩
              case round =>
                obtain ⟨j, x, hj, B, rfl, rfl⟩ := hrel
                cases j with
                | zero =>
                  obtain rfl : x = r1 := by
                    obtain ⟨y, rfl, hy⟩ := B.out
                    rw [HV.out.2.2, ← hy]
                    simp [VAL]
                  clear B HV
                  go_wp2
                  go_ret3
                  exact ⟨rfl, rfl⟩
                | succ i =>
                  have hi1 : ((i + 1 : Nat) : Int) - 1 = (i : Int) := by omega
                  rw [hi1]
                  have hi0 : (0 : Int) ≤ (i : Int) := by omega
                  have hin : (i : Int) < (n : Int) := by omega
                  have hci := HC.out.1 i (by omega)
                  have hcbi := HC.out.2 i
                  generalize hvi : l.getD i 0 = u at hci hcbi
                  have Hu : Aside (l.getD i 0 = u) := hvi
                  clear hvi hi1
                  have hu0 := hcbi.1
                  have hu1 := hcbi.2
                  clear hcbi
                  go_wp2
                  go_round
                  case rel => exact ⟨i, _, by omega, B.out.down HV.out.2.1 (by unfold DIG; rw [Hu.out]), rfl, by go_num⟩
                  case measure => first | (simp [intOf]; done) | (simp [intOf]; omega)
            · have hkp : 0 < (k : Int) := by omega
              by_cases hz : v = 0
              · subst hz
                rw [if_pos ⟨rfl, by omega⟩] at hst
                simp only [Prod.mk.injEq] at hst
                obtain ⟨rfl, rfl, rfl⟩ := hst
                clear A
                go_wp2
                go_ret3
                exact ⟨rfl, rfl⟩
              · rw [if_neg (fun h => hz h.1)] at hst
                simp only [Prod.mk.injEq] at hst
                have hvb : (v == 0) = false := by simp [hz]
                clear hz
                have HV : Aside (Tops (DIG l) (k + 1) 0 (VAL (DIG l) (k + 1)) ∧ VAL (DIG l) (k + 1) < 2 ^ 64 ∧ r1 = ((VAL (DIG l) (k + 1) : Nat) : Int)) := ok_val (HC.out.2) Hv.out (by omega) (by omega) (by omega) hst.1
                obtain ⟨_, rfl, rfl⟩ := hst
                clear A
                go_wp2
                go_loop [6, 7] (fun s6 s7 => ∃ (j : Nat) (x : Int), j ≤ k + 1 ∧ Aside (Tops (DIG l) j x (VAL (DIG l) (k + 1))) ∧ s6 = .int .u64 x ∧ s7 = .int .i64 ((j : Int) - 1)) (fun _ s => (intOf s + 1).toNat)
                case atStart => exact ⟨k + 1, 0, Nat.le_refl _, HV.out.1, rfl, by first | rfl | go_num⟩
                case round =>
                  obtain ⟨j, x, hj, B, rfl, rfl⟩ := hrel
                  cases j with
                  | zero =>
                    obtain rfl : x = r1 := by
                      obtain ⟨y, rfl, hy⟩ := B.out
                      rw [HV.out.2.2, ← hy]
                      simp [VAL]
                    clear B HV
                    go_wp2
                    go_ret3
                    exact ⟨rfl, rfl⟩
                  | succ i =>
                    have hi1 : ((i + 1 : Nat) : Int) - 1 = (i : Int) := by omega
                    rw [hi1]
                    have hi0 : (0 : Int) ≤ (i : Int) := by omega
                    have hin : (i : Int) < (n : Int) := by omega
                    have hci := HC.out.1 i (by omega)
                    have hcbi := HC.out.2 i
                    generalize hvi : l.getD i 0 = u at hci hcbi
                    have Hu : Aside (l.getD i 0 = u) := hvi
                    clear hvi hi1
                    have hu0 := hcbi.1
                    have hu1 := hcbi.2
                    clear hcbi
                    go_wp2
                    go_round
                    case rel => exact ⟨i, _, by omega, B.out.down HV.out.2.1 (by unfold DIG; rw [Hu.out]), rfl, by go_num⟩
                    case measure => first | (simp [intOf]; done) | (simp [intOf]; omega)
      · obtain rfl : k = 10 := by omega
        have hall := LG_all (n := n) (by omega) A.out
        rw [hR.out] at hall
        simp only [Prod.mk.injEq] at hall
        obtain ⟨rfl, rfl, rfl⟩ := hall
        clear A
        go_wp2
        go_ret3
        exact ⟨rfl, rfl⟩
    · obtain rfl : k = n := by omega
      by_cases h10 : k = 10
      · subst h10
        have hall := LG_all (n := 10) (by omega) A.out
        rw [hR.out] at hall
        simp only [Prod.mk.injEq] at hall
        obtain ⟨rfl, rfl, rfl⟩ := hall
        clear A
        go_wp2
        go_ret3
        exact ⟨rfl, rfl⟩
      · have hall := LG_cutoff (l := l) (n := k) (by omega) A.out
        rw [hR.out] at hall
        simp only [Prod.mk.injEq] at hall
        obtain ⟨rfl, rfl, rfl⟩ := hall
        have hk10' : ((k : Int) == 10) = false := by simp; omega
        clear A
        go_wp2
        go_ret3
        exact ⟨rfl, rfl⟩
theorem reflong_ok (a : Option Addr) (n c : Nat) (l : List Int) (w : World) (hB : Bytes w a n l) (hmax : n ≤ 140737488355328) :
    Calls Tryd.prog 43 #[.slice a n c] w fun e w' => e = .returned (.tuple #[.int .u64 (LG l n 10 0 0).1, .int .i64 (LG l n 10 0 0).2.1, .int .i64 (LG l n 10 0 0).2.2]) ∧ w = w' := by
  rcases Nat.eq_zero_or_pos n with h | h
  · subst h
    exact reflong_empty a c w
  · obtain ⟨b, off, rfl, _, _⟩ := hB.2.1 h
    exact reflong_raw b off n c l _ _ _ rfl w hB h hmax
end Go.Proofs.YtmkgldjocigffaaDoor
